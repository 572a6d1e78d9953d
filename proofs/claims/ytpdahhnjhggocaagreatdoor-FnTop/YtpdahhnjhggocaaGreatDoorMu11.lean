import Derived.Test.YtpdahhnjhggocaaGreatDoorMu10
import Derived.Deep.DeepCutAuto
open Go.Proofs.Tryz
open List renaming setIfInBounds_toArray->aA,set_cons_zero->aD,set_cons_succ->aE,map_append->aI,getElem?_cons_zero->aJ,getElem?_eq_some_iff->aK,getElem?_toArray->aM,getElem?_cons_succ->aQ,length_map->aS,length->aT,map_cons->aU,length_append->aY,take_succ_eq_append_getElem->bA,append_nil->bC,append_inj->bD,length_eq_zero_iff->bF,take_of_length_le->bG,flatMap_singleton->bH,countP_singleton->bJ,countP_append->bM,mem_filter->bR,map_take->bT
open Go.World renaming block_lt_of_cell?->aB,size_alloc->bP
open Go.Value renaming string->aC,slice->aF,bool->aX,agg->bI
open Go.RowKit.Below renaming refl->aG
open Go.Ending renaming returned->aH,returned->aP
open Go.Act renaming put->aL
open Go.Obj renaming cells->aN
open Option renaming some->aO,none->aV,ne_none_iff_exists'->bB
open Nat renaming le_refl->aR,add_sub_cancel->aZ,le_trans->bU
open Bool renaming not_eq_true->aW,or_eq_false_iff->bK,not_eq_false'->bO
open Go.ByteArray renaming toList_eq->bE
open Go.IntKind renaming wrap_i64->bL,i64->bS
open List.cons renaming inj->bN
open Go.Region renaming wanted->bQ
namespace Go.Proofs.YtpdahhnjhggocaaGreatDoor
open Go.RowKit
set_option maxHeartbeats 16000000
set_option maxRecDepth 100000
variable {P:Program}{id i c:Nat}{Q:Exit -> Act -> World -> Prop}{a:Act}{w:World}{v vl:Value}{ops:Array Oper}{C:World -> Prop}{o:Oper}{R:List Plain}{kind:ByteArray}{L:List AO}{ls:List LAt}
structure Gr(w:World) where
 u:World
 h:Below w.heap.size w u
instance (w:World):Inhabited (Gr w):=⟨⟨w,aG _ _⟩⟩
theorem AQ{l:List Oper}(b:P.follows .mixedOrders=true)(c:Region.lexB .any l.toArray=true)
  (h:wpQuiet P l.toArray (fun w'=>∃p:Gr w,w'=p.u) (fun a'=>∀w',(∃p:Gr w,w'=p.u)->Q .normal a' w') l a):(Code.region id l.toArray true).wp P Q a w :=
 wp_region_quiet (C:=fun w'=>∃p:Gr w,w'=p.u) b c ⟨⟨w.drew,(aG _ _).drew⟩,rfl⟩ (by simpa using h)
theorem DH{f:FuncId}{args:Array Value}{p:Gr w}(h:Calls P f args p.u fun e w'=>e=aH v/\Below p.u.heap.size p.u w'):Calls P f args p.u fun e a=>e=aH v/\∃q:Gr w,a=q.u :=
 h.mono fun _ w' ⟨b,c⟩=>⟨b,⟨w',p.h.trans (c.mono p.h.size)⟩,rfl⟩
theorem AY{Q:Act->Prop}{rest:List Oper}(b:bQ o (yielded ops a.tmps)=false)(h:wpQuiet P ops C Q rest (a.put o.dst undef)):wpQuiet P ops C Q (o::rest) a:=by
 unfold wpQuiet;rw[if_neg (by rw[b];decide)];exact h
theorem A6{a:Addr}(h:w.cell? a=aO v)(p:Gr w):p.u.cell? a=aO v:=(p.h.cell (aB w _ h)).trans h
def Fx(R:List Plain)(ls:List PLine)(k:Nat):Prop:=∀i,i<k->UU R ls i
theorem Fx.zero(R:List Plain)(ls:List PLine):Fx R ls 0:=fun _ h=>by omega
theorem Fx.all{ls:List PLine}(h:Fx R ls ls.length):true=linesB R ls:=by
 rw[eq_comm,Bs];exact Jp h
def FR(R:List Plain)(ls:List PLine)(i:Nat)(a:PLine):Prop:=BR R a.key a.ws=true/\(i=0\/∃b,ls[i-1]?=aO b/\lineLt R b a=true)
theorem Vi{ls:List PLine}{a:PLine}(c:ls[i]?=aO a)(h:¬FR R ls i a):false=linesB R ls:=by
 rw[eq_comm,<-aW,Bs];intro e;obtain⟨b,d,h1,f,_⟩:=Jq e i (aK.1 c).1;rw[c]at d;cases d
 exact h ⟨h1,f⟩
theorem ZN{ls:List PLine}{a:PLine}(c:ls[i]?=aO a)(h:¬((Dj R a.key=true\/keyN (ls.take (i+1)) a.key<=1)/\keyN (ls.take (i+1)) a.key<=10)):false=linesB R ls:=by
 rw[eq_comm,<-aW,Bs];intro e;obtain⟨b,d,_,_,f⟩:=Jq e i (aK.1 c).1;rw[c]at d;cases d
 exact h f
theorem Fx.succ{ls:List PLine}{a:PLine}(h:Fx R ls i)(c:ls[i]?=aO a)(h1:FR R ls i a)(b:(Dj R a.key=true\/keyN (ls.take (i+1)) a.key<=1)/\keyN (ls.take (i+1)) a.key<=10):Fx R ls (i+1):=by
 intro j d;by_cases e:j=i
 ·subst e;exact⟨a,c,h1.1,h1.2,b.1,b.2⟩
 ·exact h j (by omega)
theorem XR{D T:List LAt}{r:LAt}{key:ByteArray}(h:c=keyN (((D++r::T).map LAt.I).take D.length) key)(B:Bool)(a:(r.key.toList==key.toList)=B):(if B=true then c+1 else c)=keyN (((D++r::T).map LAt.I).take (D.length+1)) key:=by
 rw[<-bT,Bk]at h;rw[<-bT,BG,aI,Dm,<-h,List.map_singleton,Hk];cases B
 ·rw[if_neg (by decide),if_neg]
  ·rfl
  ·intro e;rw[show r.I.key=r.key from rfl]at e;rw[e]at a;simp at a
 ·rw[if_pos rfl,if_pos (show r.I.key=key from toList_inj (show r.key.toList=key.toList by simpa using a))]
theorem Ac5{key:ByteArray}(b:L.map AO.I=rulesOf kind)(e:Bt (rulesOf kind) key≠aV):∃D r T,L=D++r::T/\placeI (rulesOf kind) key=(D.length:Int)/\r.many=Dj (rulesOf kind) key:=by
 obtain⟨p,c⟩:=bB.1 e;obtain⟨i,f,a,h⟩:=Dk c;have g:i<L.length:=by
  have:=(aK.1 a).1;rw[<-b,aS]at this;exact this
 obtain⟨D,r,T,rfl,d⟩:=AS L i g;refine⟨D,r,T,rfl,by rw[f,d],?_⟩;rw[<-b,aI,aU,<-d]at a;have:r.I=p:=by simpa using a
 unfold Dj;rw[c,<-this];rfl
theorem Ox(kind:ByteArray)(z:An w vl ls)(t:Ah ls):Calls prog 58 #[aC kind,vl] w fun e w'=>Got (.bool (linesB (rulesOf kind) (ls.map LAt.I))) w e w':=by
 obtain⟨cu,cv,rfl⟩:=z.1.ae;have cw:=t.1;generalize az:ls.length=n at *;generalize a0:ls.map LAt.I=d;have ae:=Aa a0;have a1:=Aa az;have b8:=Aa (show d.length=n by rw[<-a0,aS,az]);clear a0 az;go_enter func58,ntmps58;go_wp2;go_loopw [5] (fun i wr=>∃j:Nat,j<=n/\i=.int .i64 (j:Int)/\Below w.heap.size w wr/\Fx (rulesOf kind) d j) (fun i _=>n-(intOf i).toNat)
 case atStart=>exact⟨0,by omega,rfl,aG _ _,Fx.zero _ _⟩
 case round =>
  obtain⟨j,cx,rfl,af,C⟩:=hrel;by_cases b9:j<n
  ·obtain⟨D,x,T,u,ag⟩:=AS ls j (by have:=a1.out;omega);have q:=z.V af;have I:=q;rw[u]at I;obtain⟨g,off,rfl,E,c2⟩:=I.1.line;have R:x∈ls:=by rw[u];simp
   have J:=t.2 x R;obtain⟨a2,a3,o⟩:=(q.2 x R).ae;rw[ag]at E c2;rw[o]at c2;have F:d[j]?=aO x.I:=by rw[<-ae.out,u,<-ag];simp
   have K:∀(W:World),Below wr.heap.size wr W->Calls prog 120 #[aC kind,aC x.key,aF a2 x.ws.length a3] W fun e w'=>e=aH (.bool (BR (rulesOf kind) x.key x.ws))/\Below W.heap.size W w':=by
    intro W a4;exact PR kind x.key (o▸(q.V a4).2 x R) J.1 J.2
   have G:FR (rulesOf kind) d j x.I↔BR (rulesOf kind) x.key x.ws=true/\(j=0\/∃b,d[j-1]?=aO b/\lineLt (rulesOf kind) b x.I=true):=Iff.rfl;go_upto_region 4 with fail
   go_cut [45] from 15 to 45 (fun c X=>∃B:Bool,c=.bool B/\(B=false↔FR (rulesOf kind) d j x.I)/\Below wr.heap.size wr X)
   case first =>
    have i0:(0:Int)<=(j:Int):=by omega
    have bn:(j:Int)<(n:Int):=by omega
    have bo:=fun p:Gr wr=>A6 E p
    have bp:=fun p:Gr wr=>A6 c2 p
    cases H:BR (rulesOf kind) x.key x.ws
    ·have Y:=Aa (show true=false↔FR (rulesOf kind) d j x.I by rw[G,H];simp);have S:=fun p:Gr wr=>K p.u p.h
     rw[H]at S;clear z q I t C u o F G J H K;generalize x.ws.length=bq at *;generalize x.key=xk at *;refine AQ (by kernel_rfl) (by kernel_rfl) ?_;iterate 11 quiet_step (fail)
     quiet_step ((go_at_call 120;refine DH (S _)))
     iterate 2 quiet_step (fail)
     iterate 16 (with_reducible refine AY ?_ ?_;kernel_rfl;simp only[aL,aA,aD,aE])
     quiet_step (fail)
     refine wpQuiet_nil ?_;rintro _ ⟨⟨br,A⟩,rfl⟩;go_wp2_with fail
     go_meet;exact⟨true,rfl,Y.out,A⟩
    ·have S:=fun p:Gr wr=>K p.u p.h
     rw[H]at S;by_cases bs:j=0
     ·have Y:=Aa (show True↔FR (rulesOf kind) d j x.I by rw[G,H];simp[bs]);subst bs;have cy:0<n:=b9;have cz:∀p:Gr wr,p.u.cell? ⟨g,off,aV⟩=aO (aC x.key):=fun p=>by simpa using bo p
      have c0:∀p:Gr wr,p.u.cell? ⟨g,off+1,aV⟩=aO (aF a2 x.ws.length a3):=fun p=>by simpa using bp p
      clear z q I t C u o F G J H K bo bp i0 bn;generalize x.ws.length=bq at *;generalize x.key=xk at *;refine AQ (by kernel_rfl) (by kernel_rfl) ?_;iterate 11 quiet_step (fail)
      quiet_step ((go_at_call 120;refine DH (S _)))
      iterate 5 quiet_step (fail)
      iterate 12 (with_reducible refine AY ?_ ?_;kernel_rfl;simp only[aL,aA,aD,aE])
      iterate 2 quiet_step (fail)
      refine wpQuiet_nil ?_;rintro _ ⟨⟨br,A⟩,rfl⟩;go_wp2_with fail
      go_meet;exact⟨false,rfl,⟨fun _=>Y.out.1 trivial,fun _=>rfl⟩,A⟩
     ·obtain⟨m,rfl⟩:∃m,j=m+1:=⟨j-1,by omega⟩;obtain⟨a5,y,f,ah,Z,M⟩:=Qd ls m (by have:=a1.out;omega);have ca:f=x/\ah=T:=by
       have h1:(a5++[y])++f::ah=D++x::T:=by rw[<-u,Z];simp
       have N:=bD h1 (by simp;omega);simpa using N.2
      obtain⟨rfl,rfl⟩:=ca;have ai:y∈ls:=by rw[Z];simp
      have a6:=q;rw[Z]at a6;obtain⟨bt,bu,aa,⟨ab,U⟩,cb,cc⟩:=a6.1.line2;cases aa
      obtain⟨cd,ce,a7⟩:=(q.2 y ai).ae;rw[M]at ab U;rw[a7]at U;have a8:d[m]?=aO y.I:=by rw[<-ae.out,Z,<-M];simp
      have c1:=fun p:Gr wr=>A6 ab p
      have c3:=fun p:Gr wr=>A6 U p
      have cf:∀p:Gr wr,Calls prog 121 #[aC kind,bI #[aC y.key,aF cd y.ws.length ce],bI #[aC f.key,aF a2 f.ws.length a3]] p.u fun e w'=>e=aH (.bool (lineLt (rulesOf kind) y.I f.I))/\Below p.u.heap.size p.u w' :=
       fun p=>Hr kind y.I f.I (a7▸(q.V p.h).2 y ai) (o▸(q.V p.h).2 f R) (t.2 y ai).1 (t.2 f R).1
      have bv:FR (rulesOf kind) d (m+1) f.I↔lineLt (rulesOf kind) y.I f.I=true:=by
       rw[G,H];constructor
       ·rintro⟨_,h | ⟨b,aj,cg⟩⟩
        ·omega
        ·rw[aZ,a8]at aj;cases aj;exact cg
       ·exact fun h=>⟨rfl,.inr ⟨y.I,by rw[aZ];exact a8,h⟩⟩
      have i2:(0:Int)<=(m:Int):=by omega
      have i3:(m:Int)<(n:Int):=by omega
      have i4:bS.wrap (m:Int)=(m:Int):=by rw[bL];omega
      have i5:((m:Int)+1).toNat=m+1:=by omega
      have c4:(0:Int)<(m:Int)+1:=by omega
      have c5:(m:Int)+1<(n:Int):=by omega
      have c6:(0:Int)<=(m:Int)+1:=by omega
      have Y:=Aa (show ((!lineLt (rulesOf kind) y.I f.I)=false)↔FR (rulesOf kind) d (m+1) f.I by rw[bv];simp);clear z q I a6 t C u Z o a7 F a8 G bv J H K ab U cb cc ag M R ai;generalize lineLt (rulesOf kind) y.I f.I=LT at *;generalize f.ws.length=bq at *;generalize y.ws.length=c7 at *;generalize f.key=xk at *;generalize y.key=yk at *;refine AQ (by kernel_rfl) (by kernel_rfl) ?_;iterate 11 quiet_step (fail)
      quiet_step ((go_at_call 120;refine DH (S _)))
      iterate 15 quiet_step (fail)
      quiet_step ((go_at_call 121;refine DH (cf _)))
      iterate 3 quiet_step (fail)
      refine wpQuiet_nil ?_;rintro _ ⟨⟨br,A⟩,rfl⟩;go_wp2_with fail
      go_meet;exact⟨!LT,rfl,Y.out,A⟩
   case rest =>
    obtain⟨B,rfl,ak,A⟩:=hcut;obtain⟨s,ch⟩:∃s,s=wc:=⟨_,rfl⟩;subst ch;have al:=af.trans (A.mono af.size);cases B
    ·have a9:=ak.1 rfl;have ba:Bt (rulesOf kind) x.key≠aV:=fun e=>by have:=a9.1;rw[show x.I.key=x.key from rfl,Cq _ e]at this;cases this
     have ci:∃P:Nat,placeI (rulesOf kind) x.key=(P:Int)/\∀(W:World),Calls prog 56 #[aC kind] W fun e w'=>∃V am bb,e=aH (aF (aO ⟨V,0,aV⟩) am bb)/\((0:Int)<=(P:Int)/\(P:Int)<(am:Int))/\w'.cell? ⟨V,P*4+2,aV⟩=aO (.bool (Dj (rulesOf kind) x.key))/\Below W.heap.size W w':=by
      obtain⟨p,cj⟩:=bB.1 ba;obtain⟨i,ck,c8,c9⟩:=Dk cj;refine⟨i,ck,fun W=>(Da kind W).mono ?_⟩;rintro e w' ⟨v,L,rfl,cl,bw,ac⟩;obtain⟨bd,bx,bz,rfl,da,cm⟩:=Ac5 cl ba;have cn:bd.length=i:=by omega
      obtain⟨db,co,rfl,be⟩:=Ak (show w'.ownsRow W.heap.size 54 4 v (bd++bx::bz).length ((bd++bx::bz).flatMap AO.cells) from Az.head bw);rcases be with be | ⟨V,rfl⟩
      ·simp at be
      have b0:=(AX.rm bw).cell 2 (by decide);rw[cn]at b0;refine⟨V,_,co,rfl,⟨by omega,by simp;omega⟩,?_,ac⟩;rw[b0,<-cm];rfl
     obtain⟨P,b1,bf⟩:=ci;have bg:∀W,Calls prog 90 #[aC kind,aC x.key] W fun e w'=>e=aH (.int .i64 (P:Int))/\Below W.heap.size W w':=by rw[<-b1];exact fun W=>Hq kind x.key W
     have bh:∀W,Below s.heap.size s W->W.cell? ⟨g,off+j*2,aV⟩=aO (aC x.key):=fun W a4=>(a4.cell (aB s _ ((A.cell (aB wr _ E)).trans E))).trans ((A.cell (aB wr _ E)).trans E)
     have cp:=bh s (aG _ _);have i0:(0:Int)<=(j:Int):=by omega
     have bn:(j:Int)<(n:Int):=by omega
     have an:=Aa (show ¬((Dj (rulesOf kind) x.key=true\/keyN (d.take (j+1)) x.key<=1)/\keyN (d.take (j+1)) x.key<=10)->false=linesB (rulesOf kind) d from fun h=>ZN (a:=x.I) F h);have ao:=Aa (show ((Dj (rulesOf kind) x.key=true\/keyN (d.take (j+1)) x.key<=1)/\keyN (d.take (j+1)) x.key<=10)->Fx (rulesOf kind) d (j+1) from fun N=>C.succ F a9 N);have bi:=Aa (z.V al);have b2:=Aa u;clear z q I t C u o F G J K E c2 ba b1 ak a9;generalize cq:Dj (rulesOf kind) x.key=many at *;generalize b3:x.key=xk at *;have b4:=Aa b3;clear cq b3;go_upto_region 6 with fail
     go_cut [6] from 46 to 57 (fun c X=>c=.bool many/\Below s.heap.size s X)
     case first =>
      clear an ao bi b2 b4;have ap:Below s.heap.size s s.drew:=(aG _ _).drew
      go_region_with (first
       | (go_at_call 56;refine(bf _).mono ?_;rintro e b5 ⟨V,am,bb,rfl,cr,bj,ac⟩;have ad:=aq.trans (ac.mono aq.size))
       | (go_at_call 56;refine(bf _).mono ?_;rintro e b5 ⟨V,am,bb,rfl,cr,bj,ac⟩;have ad:=ap.trans (ac.mono ap.size);have dc:=bh b5 ad)
       | (go_at_call 90;refine(bg _).mono ?_;rintro e cs ⟨rfl,ar⟩;have aq:=ad.trans (ar.mono ad.size);have dd:=(ar.cell (aB _ _ bj)).trans bj)
       | (go_at_call 90;refine(bg _).mono ?_;rintro e cs ⟨rfl,ar⟩;have aq:=ap.trans (ar.mono ap.size)))
      all_goals
       go_wp2_with fail
       go_meet;exact⟨rfl,by first | exact aq | exact ad⟩
     case rest =>
      obtain⟨rfl,bc⟩:=hcut;obtain⟨au,ct⟩:∃au,au=wc:=⟨_,rfl⟩;subst ct;have b6:=al.trans (bc.mono al.size);have bk:=Aa (bi.out.V bc);clear bf bg bh cp bi;go_wp2;go_loopw [7,8] (fun sc bl X=>∃k c:Nat,k<=j+1/\c<=k/\bl=.int .i64 (k:Int)/\sc=.int .i64 (c:Int)/\Below au.heap.size au X/\c=keyN (d.take k) xk) (fun _ bl _=>j+1-(intOf bl).toNat)
      case atStart=>exact⟨0,0,by omega,by omega,rfl,rfl,aG _ _,by simp[keyN]⟩
      case round =>
       obtain⟨k,c,de,df,rfl,rfl,av,aw⟩:=hrel;have ax:=b6.trans (av.mono b6.size);by_cases dg:k<j+1
       ·obtain⟨a5,y,ah,o,M⟩:=AS ls k (by have:=a1.out;omega);have h1:=bk.out.V av;have N:=h1;rw[o]at h1;rw[b2.out]at N;obtain⟨bt,bu,aa,ab,_⟩:=h1.1.line;cases aa
        obtain⟨bt,bu,aa,U,_⟩:=N.1.line;cases aa
        rw[M]at ab;rw[ag,b4.out]at U;have bm:=fun B aj=>XR (D:=a5) (r:=y) (T:=ah) (key:=xk) (c:=c) (by rw[M,<-o,ae.out];exact aw) B aj
        rw[<-o,ae.out,M]at bm;have ay:=Aa bm;have i2:(0:Int)<=(k:Int):=by omega
        have i3:(k:Int)<(n:Int):=by omega
        have i4:(k:Int)<=(j:Int):=by omega
        clear h1 N o an ao bk aw bm;generalize y.key=yk at *;cases b7:(yk.toList==xk.toList)
        ·have l:=Aa (ay.out false b7);clear ay;go_wp2;go_quiet (fail)
         go_wp2;go_roundw;case rel=>exact⟨k+1,c,by omega,by omega,by go_num,rfl,below_drewN av _,l.out⟩
         case measure=>simp[intOf];omega
        ·have l:=Aa (ay.out true b7);clear ay;go_wp2;go_quiet (fail)
         go_wp2;go_roundw;case rel=>exact⟨k+1,c+1,by omega,by omega,by go_num,by go_num,below_drewN av _,l.out⟩
         case measure=>simp[intOf];omega
       ·obtain rfl:k=j+1:=by omega
        have O:=an.out;have Q:=ao.out;rw[<-aw]at O Q;have i4:¬(((j+1:Nat):Int)<=(j:Int)):=by omega
        have i5:¬((j:Int)+1<=(j:Int)):=by omega
        clear an ao bk aw;cases many
        ·by_cases h1:c<=1
         ·have l:=Q ⟨.inr h1,by omega⟩;clear O Q;go_wp2;go_roundw;case rel=>exact⟨j+1,by omega,by go_num,ax,l⟩
          case measure=>simp[intOf];omega
         ·have l:=Aa (O (fun h=>by rcases h.1 with h | h;cases h;omega))
          clear O Q;go_wp2;go_ret;exact⟨Au l.out,ax⟩
        ·by_cases h1:c<=10
         ·have l:=Q ⟨.inl rfl,h1⟩;clear O Q;go_wp2;go_roundw;case rel=>exact⟨j+1,by omega,by go_num,ax,l⟩
          case measure=>simp[intOf];omega
         ·have l:=Aa (O (fun h=>by omega));clear O Q;go_wp2;go_ret;exact⟨Au l.out,ax⟩
    ·have l:=Aa (Vi F (fun h=>by have:=ak.2 h;cases this));clear z q I t C u o F G J K E c2 ak;go_wp2;go_ret;exact⟨Au l.out,al⟩
  ·obtain rfl:j=n:=by omega
   have l:=Aa (Fx.all (by rw[b8.out];exact C));clear z t C;go_wp2;go_ret;exact⟨Au l.out,af⟩
variable {md:Region.Mode}{k:Nat}{listed:Array Bool}{bs:List BAt}
theorem K9{b:Nat}(c:Region.ready md ops listed=[k])(d:ops[k]?=aO o)
  (h:∀K:Act->World->Prop,(∀a w,wpAny P md ops Q b (listed.setIfInBounds k true) a w->K a w)->if bQ o (yielded ops a.tmps)=true then Oper.wp P o a w K Q else K (a.put o.dst undef) w):wpAny P md ops Q (b+1) listed a w :=
 wpAny_ready c (by simp) (AllReady.cons d (fun K e=>h K e) AllReady.nil)
theorem ZO{b:List Oper}(k n:Nat)(c:Region.noSelect b.toArray=true)(d:(b.drop k).length=n)(e:Region.lexFrom md b.toArray n k listed=true)
  (h:wpQuiet P b.toArray (fun w'=>∃p:Gr w,w'=p.u) (fun a'=>∀w',(∃p:Gr w,w'=p.u)->Q .normal a' w') (b.drop k) a):wpAny P md b.toArray Q n listed a w:=by
 subst d;exact wpAny_of_quiet (Q:=fun a'=>∀w',(∃p:Gr w,w'=p.u)->Q .normal a' w') (fun _ w' f h=>h w' f) _ _ _ _ ⟨⟨w,aG _ _⟩,rfl⟩ (wpAnyQ_lex c (b.drop k) k listed a (fun j=>by simp) e h)
def Eb(bs:List PBlock)(k:Nat):Prop:=∀i,i<k->Kl bs i
theorem Eb.zero(bs:List PBlock):Eb bs 0:=fun _ h=>by omega
theorem Eb.all{bs:List PBlock}(h:Eb bs bs.length)(a:bs.length<=60):true=AJ bs:=by
 rw[eq_comm,A0];exact Jr a h
def Ec(bs:List PBlock)(i:Nat)(b:PBlock):Prop:=(rulesOf b.aa).length≠0/\nameB b.name.data.toList=true/\linesB (rulesOf b.aa) b.ac=true/\(i=0\/∃a,bs[i-1]?=aO a/\blockLt a b=true)
theorem Vj{bs:List PBlock}{b:PBlock}(a:bs[i]?=aO b)(h:¬Ec bs i b):false=AJ bs:=by
 rw[eq_comm,<-aW,A0];intro e;obtain⟨c,d,h1,f,g,j⟩:=PU e i (aK.1 a).1;rw[a]at d;cases d
 exact h ⟨h1,f,Bs.2 g,j⟩
theorem Eb.succ{bs:List PBlock}{b:PBlock}(h:Eb bs i)(a:bs[i]?=aO b)(h1:Ec bs i b):Eb bs (i+1):=by
 intro j c;by_cases e:j=i
 ·subst e;exact⟨b,a,h1.1,h1.2.1,Bs.1 h1.2.2.1,h1.2.2.2⟩
 ·exact h j (by omega)
theorem Ac6{bs:List PBlock}(h:¬bs.length<=60):false=AJ bs:=by
 rw[eq_comm,<-aW,A0];exact fun a=>h a.1
theorem DI(F:As w v bs)(G:Ax bs):Calls prog 14 #[bI #[v]] w fun e w'=>e=aH (.bool (AJ (bs.map BAt.I)))/\Below w.heap.size w w':=by
 obtain⟨ax,ay,rfl⟩:=F.1.ae;have b1:=G.1;have b0:Below w.heap.size w (w.alloc (aN #[aF ax bs.length ay] 25)):=(aG _ _).alloc (aR _) _;have ae:=A3 (w:=w) (cs:=#[aF ax bs.length ay]) (T:=25) 0;simp only[aM,aJ]at ae;generalize az:bs.length=n at *;generalize a0:bs.map BAt.I=b;have S:=Aa a0;have U:=Aa az;have N:=Aa (show b.length=n by rw[<-a0,aS,az]);clear a0 az;by_cases a5:n<=60
 ·go_enter func14,ntmps14;go_wp2;generalize bf:w.alloc (aN #[aF ax n ay] 25)=w1 at *;clear bf;go_loopw [3] (fun i wr=>∃j:Nat,j<=n/\i=.int .i64 (j:Int)/\Below w1.heap.size w1 wr/\Eb b j) (fun i _=>n-(intOf i).toNat)
  case atStart=>exact⟨0,by omega,rfl,aG _ _,Eb.zero _⟩
  case round =>
   obtain⟨j,b2,rfl,af,O⟩:=hrel;have ag:=b0.trans (af.mono b0.size);have a1:=(af.cell (p:=⟨w.heap.size,0,aV⟩) (aB w1 _ ae)).trans ae;by_cases b3:j<n
   ·obtain⟨D,x,T,P,V⟩:=AS bs j (by have:=U.out;omega);have z:=F.V ag;have X:=z;rw[P]at X;obtain⟨g,off,rfl,ah,c2,c3⟩:=X.1.block;have Q:x∈bs:=by rw[P];simp
    have Y:=G.2 x Q;obtain⟨r,s,Z⟩:=(z.2 x Q).1.ae;rw[V]at ah c2 c3;rw[Z]at c3;have aa:b[j]?=aO x.I:=by rw[<-S.out,P,<-V];simp
    have i0:(0:Int)<=(j:Int):=by omega
    have bg:(j:Int)<(n:Int):=by omega
    have ai:∀W,Calls prog 56 #[aC x.aa] W fun e w'=>∃a6 a7,e=aH (aF a6 (rulesOf x.aa).length a7)/\Below W.heap.size W w':=by
     intro W;refine(Da x.aa W).mono ?_;rintro e w' ⟨v,L,rfl,bh,bi,H⟩;obtain⟨bj,bk,rfl,_⟩:=Ak (show w'.ownsRow W.heap.size 54 4 v L.length (L.flatMap AO.cells) from Az.head bi);exact⟨bj,bk,by rw[<-bh,aS],H⟩
    have I:∀W,Calls prog 57 #[aC x.name] W fun e w'=>e=aH (.bool (nameB x.name.data.toList))/\Below W.heap.size W w':=fun W=>(Jl x.name W Y.1).mono fun e w' ⟨bl,bm⟩=>⟨bl,bm▸aG _ _⟩
    have aj:∀W,Below wr.heap.size wr W->Calls prog 58 #[aC x.aa,aF r x.ls.length s] W fun e w'=>e=aH (.bool (linesB (rulesOf x.aa) (x.ls.map LAt.I)))/\Below W.heap.size W w':=fun W bn=>Ox x.aa (Z▸(z.V bn).2 x Q) Y.2
    have l:Ec b j x.I↔(rulesOf x.aa).length≠0/\nameB x.name.data.toList=true/\linesB (rulesOf x.aa) (x.ls.map LAt.I)=true/\(j=0\/∃a,b[j-1]?=aO a/\blockLt a x.I=true):=Iff.rfl;have ak:=Aa (show j≠0->∃y d f,b[j-1]?=aO (BAt.I y)/\(wr.cell? ⟨g,off+(j-1)*3,aV⟩=aO (aC y.aa)/\wr.cell? ⟨g,off+(j-1)*3+1,aV⟩=aO (aC y.name)/\wr.cell? ⟨g,off+(j-1)*3+2,aV⟩=aO (aF d y.ls.length f)) from by
     intro J;obtain⟨b4,y,b5,b6,a2,a8⟩:=Qd bs (j-1) (by have:=U.out;omega);have a9:=z;rw[a2]at a9;obtain⟨b7,b8,bo,⟨al,am,ab⟩,_⟩:=a9.1.block2;cases bo
     obtain⟨d,f,bp⟩:=(z.2 y (by rw[a2];simp)).1.ae;rw[a8]at al am ab;rw[bp]at ab;exact⟨y,d,f,by rw[<-S.out,a2,<-a8];simp,al,am,ab⟩)
    have an:=Aa (show ¬Ec b j x.I->false=AJ b from fun h=>Vj aa h);have ao:=Aa (show Ec b j x.I->Eb b (j+1) from fun h=>O.succ aa h);have a3:∀(y:BAt) d f W,Calls prog 59 #[bI #[aC y.aa,aC y.name,aF d y.ls.length f],bI #[aC x.aa,aC x.name,aF r x.ls.length s]] W fun e w'=>e=aH (.bool (blockLt y.I x.I))/\Below W.heap.size W w':=fun y d f W=>KX y.I x.I y.ls.length x.ls.length f s d r W
    go_upto_region 7 with fail
    go_cut [54] from 21 to 54 (fun c bq=>∃B:Bool,c=.bool B/\(B=false↔Ec b j x.I)/\Below wr.heap.size wr bq)
    case first =>
     have ba:Below wr.heap.size wr (wr.alloc (aN #[aC x.aa,aC x.name,aF r x.ls.length s] 46)):=(aG _ _).alloc (aR _) _;have k0:=(ba.cell (p:=⟨w.heap.size,0,aV⟩) (aB wr _ a1)).trans a1;have ap:=A3 (w:=wr) (cs:=#[aC x.aa,aC x.name,aF r x.ls.length s]) (T:=46) 0;have aq:=A3 (w:=wr) (cs:=#[aC x.aa,aC x.name,aF r x.ls.length s]) (T:=46) 1;have ar:=A3 (w:=wr) (cs:=#[aC x.aa,aC x.name,aF r x.ls.length s]) (T:=46) 2;simp only[aM,aJ,aQ]at ap aq ar;clear F z X G O P Z aa Y an ao ah c2 c3 Q V ae a1 U S N;generalize linesB (rulesOf x.aa) (x.ls.map LAt.I)=br at *;generalize nameB x.name.data.toList=bt at *;generalize (rulesOf x.aa).length=bb at *;generalize x.ls.length=bc at *;generalize x.aa=xk at *;generalize x.name=xn at *;generalize wr.alloc (aN #[aC xk,aC xn,aF r bc s] 46)=W0 at *;refine wp_region_any (by kernel_rfl) ?_;refine K9 (k:=0) (by kernel_rfl) rfl (fun K A=>?_);go_simp;refine A _ _ ?_;clear A K;refine K9 (k:=1) (by kernel_rfl) rfl (fun K A=>?_);go_simp;refine A _ _ ?_;clear A K;refine K9 (k:=2) (by kernel_rfl) rfl (fun K A=>?_);go_simp;refine(ai _).mono ?_;rintro e C ⟨a6,a7,rfl,H⟩;refine A _ _ ?_;clear A K ai;have bd:=ba.drew;have o:=bd.trans (H.mono bd.size);have b9:=fun p:Gr C=>A6 ((H.cell (p:=⟨w.heap.size,0,aV⟩) (aB W0 _ k0)).trans k0) p
     have ca:=fun p:Gr C=>A6 ((H.cell (p:=⟨wr.heap.size,0,aV⟩) (aB W0 _ ap)).trans ap) p
     have cb:=fun p:Gr C=>A6 ((H.cell (p:=⟨wr.heap.size,1,aV⟩) (aB W0 _ aq)).trans aq) p
     have cc:=fun p:Gr C=>A6 ((H.cell (p:=⟨wr.heap.size,2,aV⟩) (aB W0 _ ar)).trans ar) p
     have ac:=fun p:Gr C=>aj p.u (o.trans (p.h.mono o.size))
     have R:=Aa (show j≠0->∃y d f,b[j-1]?=aO (BAt.I y)/\∀p:Gr C,(p.u.cell? ⟨g,off+(j-1)*3,aV⟩=aO (aC y.aa)/\p.u.cell? ⟨g,off+(j-1)*3+1,aV⟩=aO (aC y.name)/\p.u.cell? ⟨g,off+(j-1)*3+2,aV⟩=aO (aF d y.ls.length f)) from by
      intro J;obtain⟨y,d,f,bu,al,am,ab⟩:=ak.out J;have a4:∀ {a:Addr} {v:Value},wr.cell? a=aO v->C.cell? a=aO v:=fun h=>(o.cell (aB wr _ h)).trans h
      exact⟨y,d,f,bu,fun p=>⟨A6 (a4 al) p,A6 (a4 am) p,A6 (a4 ab) p⟩⟩)
     clear k0 ap aq ar aj ak;refine ZO 3 31 (by kernel_rfl) (by rfl) (by kernel_rfl) ?_;simp only[List.drop_succ_cons,List.drop_zero];by_cases E:bb=0
     ·have t:=Aa (show true=false↔Ec b j x.I by rw[l,E];simp);subst E;clear l ac I R;iterate 3 quiet_step (fail)
      iterate 4 (with_reducible refine AY ?_ ?_;kernel_rfl;simp only[aL,aA,aD,aE])
      iterate 2 quiet_step (fail)
      iterate 6 (with_reducible refine AY ?_ ?_;kernel_rfl;simp only[aL,aA,aD,aE])
      iterate 2 quiet_step (fail)
      iterate 3 (with_reducible refine AY ?_ ?_;kernel_rfl;simp only[aL,aA,aD,aE])
      iterate 9 (with_reducible refine AY ?_ ?_;kernel_rfl;simp only[aL,aA,aD,aE])
      iterate 1 (with_reducible refine AY ?_ ?_;kernel_rfl;simp only[aL,aA,aD,aE])
      quiet_step (fail)
      refine wpQuiet_nil ?_;rintro _ ⟨⟨au,q⟩,rfl⟩;have u:=o.trans (q.mono o.size);go_wp2_with fail
      go_meet;exact⟨true,rfl,t.out,u⟩
     have cd:((bb:Int)==0)=false:=by rw[beq_eq_false_iff_ne];omega
     cases bt
     ·have t:=Aa (show true=false↔Ec b j x.I by rw[l];simp);clear l ac R E;iterate 5 quiet_step (fail)
      quiet_step ((go_at_call 57;refine DH (I _)))
      iterate 3 quiet_step (fail)
      iterate 6 (with_reducible refine AY ?_ ?_;kernel_rfl;simp only[aL,aA,aD,aE])
      iterate 2 quiet_step (fail)
      iterate 3 (with_reducible refine AY ?_ ?_;kernel_rfl;simp only[aL,aA,aD,aE])
      iterate 9 (with_reducible refine AY ?_ ?_;kernel_rfl;simp only[aL,aA,aD,aE])
      iterate 1 (with_reducible refine AY ?_ ?_;kernel_rfl;simp only[aL,aA,aD,aE])
      quiet_step (fail)
      refine wpQuiet_nil ?_;rintro _ ⟨⟨au,q⟩,rfl⟩;have u:=o.trans (q.mono o.size);go_wp2_with fail
      go_meet;exact⟨true,rfl,t.out,u⟩
     cases br
     ·have t:=Aa (show true=false↔Ec b j x.I by rw[l];simp);clear l R E;iterate 5 quiet_step (fail)
      quiet_step ((go_at_call 57;refine DH (I _)))
      iterate 3 quiet_step (fail)
      iterate 4 quiet_step (fail)
      quiet_step ((go_at_call 58;refine DH (ac _)))
      iterate 3 quiet_step (fail)
      iterate 3 (with_reducible refine AY ?_ ?_;kernel_rfl;simp only[aL,aA,aD,aE])
      iterate 9 (with_reducible refine AY ?_ ?_;kernel_rfl;simp only[aL,aA,aD,aE])
      iterate 1 (with_reducible refine AY ?_ ?_;kernel_rfl;simp only[aL,aA,aD,aE])
      quiet_step (fail)
      refine wpQuiet_nil ?_;rintro _ ⟨⟨au,q⟩,rfl⟩;have u:=o.trans (q.mono o.size);go_wp2_with fail
      go_meet;exact⟨true,rfl,t.out,u⟩
     by_cases J:j=0
     ·have t:=Aa (show True↔Ec b j x.I by rw[l];simp[E,J]);subst J;clear l R E i0 bg;iterate 5 quiet_step (fail)
      quiet_step ((go_at_call 57;refine DH (I _)))
      iterate 3 quiet_step (fail)
      iterate 4 quiet_step (fail)
      quiet_step ((go_at_call 58;refine DH (ac _)))
      iterate 3 quiet_step (fail)
      iterate 3 quiet_step (fail)
      iterate 9 (with_reducible refine AY ?_ ?_;kernel_rfl;simp only[aL,aA,aD,aE])
      iterate 2 quiet_step (fail)
      refine wpQuiet_nil ?_;rintro _ ⟨⟨au,q⟩,rfl⟩;have u:=o.trans (q.mono o.size);go_wp2_with fail
      go_meet;exact⟨false,rfl,⟨fun _=>t.out.1 trivial,fun _=>rfl⟩,u⟩
     ·obtain⟨y,d,f,av,ad⟩:=R.out J;obtain⟨m,rfl⟩:∃m,j=m+1:=⟨j-1,by omega⟩;simp only[aZ]at av ad l;have ce:=fun p=>(ad p).1
      have cf:=fun p=>(ad p).2.1
      have cg:=fun p=>(ad p).2.2
      have bv:∀p:Gr C,Calls prog 59 #[bI #[aC y.aa,aC y.name,aF d y.ls.length f],bI #[aC xk,aC xn,aF r bc s]] p.u fun e w'=>e=aH (.bool (blockLt y.I x.I))/\Below p.u.heap.size p.u w':=fun p=>a3 y d f p.u
      have t:=Aa (show ((!blockLt y.I x.I)=false)↔Ec b (m+1) x.I by
       rw[l];constructor
       ·intro h;exact⟨E,trivial,trivial,.inr ⟨y.I,av,by simpa using h⟩⟩
       ·rintro⟨_,_,_,h | ⟨a,be,bw⟩⟩
        ·omega
        ·rw[av]at be;cases be;rw[bw];rfl)
      have i2:(0:Int)<=(m:Int):=by omega
      have i3:(m:Int)<(n:Int):=by omega
      have i4:bS.wrap (m:Int)=(m:Int):=by rw[bL];omega
      have i5:((m:Int)+1).toNat=m+1:=by omega
      have ch:(0:Int)<(m:Int)+1:=by omega
      clear l R E ad av J;generalize blockLt y.I x.I=LT at *;generalize y.aa=yk at *;generalize y.name=yn at *;generalize y.ls.length=ci at *;iterate 5 quiet_step (fail)
      quiet_step ((go_at_call 57;refine DH (I _)))
      iterate 3 quiet_step (fail)
      iterate 4 quiet_step (fail)
      quiet_step ((go_at_call 58;refine DH (ac _)))
      iterate 3 quiet_step (fail)
      iterate 10 quiet_step (fail)
      quiet_step ((go_at_call 59;refine DH (bv _)))
      iterate 3 quiet_step (fail)
      refine wpQuiet_nil ?_;rintro _ ⟨⟨au,q⟩,rfl⟩;have u:=o.trans (q.mono o.size);go_wp2_with fail
      go_meet;exact⟨!LT,rfl,t.out,u⟩
    case rest =>
     obtain⟨B,rfl,aw,q⟩:=hcut;have bx:=ag.trans (q.mono ag.size);have bz:=af.trans (q.mono af.size);cases B
     ·have M:=ao.out (aw.1 rfl);clear F z X G O P Z aa Y an ao ah c2 c3 Q V U S N ai I aj ak l a3 aw;go_wp2;go_roundw;case rel=>exact⟨j+1,by omega,by go_num,bz,M⟩
      case measure=>simp[intOf];omega
     ·have M:=Aa (an.out (fun h=>by have:=aw.2 h;cases this));clear F z X G O P Z aa Y an ao ah c2 c3 Q V U S N ai I aj ak l a3 aw;go_wp2;go_ret;exact⟨Au M.out,bx⟩
   ·obtain rfl:j=n:=by omega
    have M:=Aa (Eb.all (by rw[N.out];exact O) (by rw[N.out];exact a5));clear F G O;go_wp2;go_ret;exact⟨Au M.out,ag⟩
 ·have M:=Aa (Ac6 (bs:=b) (by rw[N.out];exact a5));have cj:(60:Int)<(n:Int):=by omega
  clear F G;go_enter func14,ntmps14;go_wp2;go_ret;exact⟨Au M.out,b0⟩
theorem ZP{b:BAt}(key:ByteArray)(t:AH w b)(l:Ah b.ls):Calls prog 89 #[bI #[aC b.aa,aC b.name,b.v],aC key] w fun e w'=>∃v' ls',e=aH v'/\ls'.map LAt.I=Iy (b.ls.map LAt.I) key/\A5 w.heap.size w' v' ls'/\Ah ls'/\Below w.heap.size w w':=by
 obtain⟨bk,bn,bv,ls⟩:=b;unfold AH at t;simp only at *;obtain⟨ao,m,rfl⟩:=t.1.ae;have O:(ls.filter fun x=>x.key.toList==key.toList).map LAt.I=Iy (ls.map LAt.I) key:=by
  unfold Iy;rw[List.filter_map];rfl
 have P:=Aa O;clear O;have a6:=l.1;generalize Q:ls.length=a at *;have R:=Aa Q;clear Q;obtain⟨i0,an,ap,aq,ar⟩:=info_parts CK;have S:=(aG w.heap.size w).alloc (aR _) (aN #[aC bk,aC bn,aF ao a m] 46);have U:=A3 (w:=w) (cs:=#[aC bk,aC bn,aF ao a m]) (T:=46) 2;simp only[aM,aJ,aQ]at U;have n:=t.V S;have V:=World.ownsRow_lit (base:=w.heap.size+1) (e:=115) (size:=2) (w.alloc (aN #[aC bk,aC bn,aF ao a m] 46)) #[] 0 (by simp) (by decide) rfl;simp only[bP]at V;have au:=(aG (w.heap.size+1) (w.alloc (aN #[aC bk,aC bn,aF ao a m] 46))).alloc (by simp) (aN #[] 115);clear t;go_enter func89,ntmps89;go_wp2;go_loopw [5,6] (fun u i wr=>∃(j:Nat) (done:List LAt),j<=a/\i=.int .i64 (j:Int)/\done=(ls.take j).filter (fun x=>x.key.toList==key.toList)/\wr.ownsRow (w.heap.size+1) 115 2 u done.length (done.flatMap LAt.cells)/\Below (w.heap.size+1) (w.alloc (aN #[aC bk,aC bn,aF ao a m] 46)) wr) (fun _ i _=>a-(intOf i).toNat)
 case atStart=>exact⟨0,[],by omega,rfl,by simp,by simpa using V,au⟩
 case round =>
  obtain⟨j,done,a7,rfl,c,d,f⟩:=hrel;obtain⟨W,X,rfl,_⟩:=Ak d;have a8:done.length<=j:=by rw[c];exact bU (List.length_filter_le _ _) (by simp;omega)
  have a9:=(f.cell (p:=⟨w.heap.size,2,aV⟩) (by simp)).trans U;have G:=f.size;simp only[bP]at G;by_cases ba:j<a
  ·obtain⟨D,x,T,o,v⟩:=AS ls j (by have:=R.out;omega);have h:=n.V (by simpa using f);have H:x∈ls:=by rw[o];simp
   have z:=h;rw[o]at z;obtain⟨g,off,rfl,av,c2⟩:=z.1.line;obtain⟨A,B,q⟩:=Ap.ae (h.2 x H);have C:=Aa (show (ls.take (j+1)).filter (fun x=>x.key.toList==key.toList)=done++[x].filter (fun x=>x.key.toList==key.toList) from by rw[c,o,<-v,Bk,BG,List.filter_append]);rw[q]at c2;rw[v]at av c2;have bb:(0:Int)<=(j:Int):=by omega
   have bc:(j:Int)<(a:Int):=by omega
   have I:=Aa (show (LAt.cells x)=[aC x.key,aF A x.ws.length B] from by unfold LAt.cells;rw[q]);have J:=Aa d;have Y:=Aa (show ∀k,(Value.slice W done.length X).ownBlock=aO k->w.heap.size+1<=k from fun k aw=>(d.lt k aw).1);cases Z:(x.key.toList==key.toList)
   ·have K:=Aa (show (ls.take (j+1)).filter (fun x=>x.key.toList==key.toList)=done from by rw[C.out];simp[Z]);clear h z c d o q v H C I n l;generalize x.key=xk at *;generalize x.ws.length=bd at *;go_wp2;go_roundw;case rel=>exact⟨j+1,done,by omega,by go_num,K.out.symm,J.out,f⟩
    case measure=>simp[intOf];omega
   ·have K:=Aa (show (ls.take (j+1)).filter (fun x=>x.key.toList==key.toList)=done++[x] from by rw[C.out];simp[Z]);have L:=Cy (ls:=[x]) (fun y ax=>by rw[List.mem_singleton.1 ax];exact⟨_,_,_,q⟩);rw[bH,I.out]at L;clear h z c d o q v H C n l;have aa:=J.out.alloc (aN #[aC x.key,aF A x.ws.length B] 115);have ay:=f.alloc G (aN #[aC x.key,aF A x.ws.length B] 115);have ab:=Bz wr #[aC x.key,aF A x.ws.length B] 115 2 rfl;go_wp2_with (at_builtin;refine A8 (by rfl) _ _ 44 (by rfl) (w.heap.size+1) 115 i0 _ 2 40 underlying44 an ap aq ar rfl (by decide) _ done.length _ (by rfl) aa _ 1 _ (by rfl) ab L ?c3 ?c4 (bU G (by simp)) ?_)
    case c3=>unfold maxLen;omega
    case c4=>omega
    intro az a0 a1 ac ad _;have a2:=ay.grown ad (by simp;omega) Y.out;have a3:=Aa (show a1.ownsRow (w.heap.size+1) 115 2 (aF az (done.length+1) a0) (done++[x]).length ((done++[x]).flatMap LAt.cells) from by
     rw[List.flatMap_append,bH,I.out,aY];exact ac)
    clear aa ab L ac ad Y J;go_wp2;go_roundw;case rel=>exact⟨j+1,done++[x],by omega,by go_num,K.out.symm,a3.out,a2⟩
    case measure=>simp[intOf];omega
  ·obtain rfl:j=a:=by omega
   have ae:ls.take j=ls:=by rw[<-R.out,List.take_length]
   rw[ae]at c;have h:=n.V (by simpa using f);have af:An wr (aF W done.length X) done:=⟨AG d,fun x r=>h.2 x (by rw[c]at r;exact(bR.1 r).1)⟩;have M:Ah done:=⟨by omega,fun x r=>l.2 x (by rw[c]at r;exact(bR.1 r).1)⟩;have ag:=KV af M;have N:Below w.heap.size w wr:=S.trans (f.mono (by omega));have a4:=Aa (show done.map LAt.I=Iy (ls.map LAt.I) key from by rw[c];exact P.out);have a5:=Aa M;clear h n l d c ae af M P;generalize done.length=be at *;go_wp2_with (go_at_call 97;refine ag.mono ?_)
   first | rintro e ah ai rfl E s o7 F | rintro e ah ai E rfl s o7 F | rintro e ah ⟨ai,E,rfl,s,o7,F⟩
   have aj:=Aa (s.trans a4.out);have ak:=Aa (o7.mono N.size);have al:=N.trans (F.mono N.size);have am:=Aa (a5.out.same s);obtain⟨bf,bg,rfl,_⟩:=Ak o7.row;clear ag o7 s F;go_wp2;go_ret;first | exact⟨_,E,rfl,aj.out,ak.out,am.out,al⟩ | exact⟨_,rfl,E,aj.out,ak.out,am.out,al⟩
def Nt(K:Bool)(w:World)(e:Ending)(w':World):Prop:=∃a n c,e=aH (aF a n c)/\(((n:Int)==0)=K)/\Below w.heap.size w w'
theorem XV{b:BAt}(key:ByteArray)(d:AH w b)(f:Ah b.ls):Calls prog 89 #[bI #[aC b.aa,aC b.name,b.v],aC key] w fun e w'=>Nt (!hasK (b.ls.map LAt.I) key) w e w':=by
 refine(ZP key d f).mono ?_;rintro e w' ⟨v',ls',rfl,g,h,_,i⟩;obtain⟨a,c,rfl,_⟩:=Ak h.row;refine⟨a,_,c,rfl,?_,i⟩;rw[<-Acy,<-g];cases ls' with
 | nil=>rfl
 | cons x l=>simp;omega
def sameN(ls:List PLine)(a:PLine):Nat:=ls.countP (fun o=>o.key.toList==a.key.toList&&decide (o.ws=a.ws))
def Adf(n m:Nat)(w:World)(e:Ending)(w':World):Prop:=e=aH (.tuple #[.int .i64 (n:Int),.int .i64 (m:Int)])/\Below w.heap.size w w'
theorem Yb(ls:List PLine)(a:PLine)(k:ByteArray):keyN (ls++[a]) k=keyN ls k+(if (a.key.toList==k.toList)=true then 1 else 0):=by
 unfold keyN;rw[bM,bJ]
theorem Vs(ls:List PLine)(a x:PLine):sameN (ls++[a]) x=sameN ls x+(if (a.key.toList==x.key.toList&&decide (a.ws=x.ws))=true then 1 else 0):=by
 unfold sameN;rw[bM,bJ]
theorem Yc{b:BAt}{x:LAt}(B:AH w b)(J:Ah b.ls)(C:BL w x)(aq:x.ws.length<=1048576):Calls prog 155 #[bI #[aC b.aa,aC b.name,b.v],bI #[aC x.key,x.v]] w fun e w'=>Adf (keyN (b.ls.map LAt.I) x.key) (sameN (b.ls.map LAt.I) x.I) w e w':=by
 obtain⟨bk,bn,bv,f⟩:=b;obtain⟨xk,xv,d⟩:=x;unfold AH at B;unfold BL at C;simp only at *;obtain⟨la,lc,rfl⟩:=B.1.ae;obtain⟨xa,xc,rfl⟩:=C.ae;have E:=BO (w:=w) (cs:=#[aC bk,aC bn,aF la f.length lc]) (ds:=#[aC xk,aF xa d.length xc]) (T:=46) (U:=115);have c2:=E.1 2;have s:=E.2 0;have t:=E.2 1;simp only[aM,aJ,aQ]at c2 s t;clear E;have F:Below w.heap.size w ((w.alloc (aN #[aC bk,aC bn,aF la f.length lc] 46)).alloc (aN #[aC xk,aF xa d.length xc] 115)):=((aG _ _).alloc (aR _) _).alloc (by simp) _;have K:=Aa (B.V F);have L:=Aa (Ap.V C F);have M:=Aa J;have a1:=J.1;clear B J C;generalize aa:f.length=o at *;have ab:=Aa aa;clear aa;generalize ac:d.length=N at *;have ad:=Aa ac;clear ac;generalize ae:(w.alloc (aN #[aC bk,aC bn,aF la o lc] 46)).alloc (aN #[aC xk,aF xa N xc] 115)=W0 at *;have ar:=Aa ae;clear ae;go_enter func155,ntmps155;go_wp2;go_loopw [6,7,8] (fun n m i wr=>∃(D T:List LAt) (a c:Nat),i=.int .i64 (D.length:Int)/\n=.int .i64 (a:Int)/\m=.int .i64 (c:Int)/\D.length<=o/\a<=D.length/\c<=D.length/\Hid (f=D++T)/\Hid (a=keyN (D.map LAt.I) xk/\c=sameN (D.map LAt.I) ⟨xk,d⟩)/\Below W0.heap.size W0 wr) (fun _ _ i _=>o-(intOf i).toNat)
 case atStart =>
  rw[ar.out];exact⟨[],f,0,0,rfl,rfl,rfl,by simp,by simp,by simp,(rfl:f=[]++f),(⟨rfl,rfl⟩:(0:Nat)=keyN [] xk/\(0:Nat)=sameN [] ⟨xk,d⟩),aG _ _⟩
 case round =>
  obtain⟨D,T,a,c,rfl,rfl,rfl,a2,a3,a4,j,u,k⟩:=hrel;have q:=(k.cell (aB W0 _ c2)).trans c2;have G:=(k.cell (aB W0 _ s)).trans s;have v:=(k.cell (aB W0 _ t)).trans t;cases T with
  | nil =>
   have au:D.length=o:=by rw[<-ab.out,j.out];simp
   have a5:¬((D.length:Int)<(o:Int)):=by omega
   have af:=Aa (show a=keyN (f.map LAt.I) xk/\c=sameN (f.map LAt.I) ⟨xk,d⟩ from by rw[j.out,bC];exact u.out);clear j u K L M c2 s t;go_wp2;go_ret2
   exact⟨by rw[af.out.1,af.out.2];rfl,F.trans (k.mono F.size)⟩
  | cons y T =>
   have au:D.length<o:=by have:=ab.out;rw[j.out]at this;simp at this;omega
   have O:=K.out.V k;have P:=O;rw[j.out]at P;obtain⟨g,off,rfl,H,r⟩:=P.1.line;have Q:y∈f:=by rw[j.out];simp
   have R:=O.2 y Q;obtain⟨ag,yc,S⟩:=Ap.ae R;have ah:=(M.out.2 y Q).1;have a6:((D.length:Int)<(o:Int)):=by omega
   have a7:(0:Int)<=(D.length:Int):=by omega
   rw[S]at r;have I:∀W,Below wr.heap.size wr W->Calls prog 91 #[aF ag y.ws.length yc,aF xa N xc] W fun e w'=>e=aH (.bool (decide (y.ws=d)))/\Below W.heap.size W w':=fun W ai=>Tg (by have:=Ap.V R ai;rw[S]at this;exact this) (by rw[ad.out]at *;exact(Ap.V L.out k).V ai) ah (by rw[ad.out];exact aq)
   have z:Hid (f=(D++[y])++T):=by have:=j.out;show f=_;rw[this];simp
   have h:=Aa (show keyN ((D++[y]).map LAt.I) xk=a+(if (y.key.toList==xk.toList)=true then 1 else 0)/\sameN ((D++[y]).map LAt.I) ⟨xk,d⟩=c+(if (y.key.toList==xk.toList&&decide (y.ws=d))=true then 1 else 0) from by
    rw[aI,u.out.1,u.out.2];exact⟨Yb _ _ _,Vs _ _ _⟩)
   clear O P R S j u Q ah K L M c2 s t;generalize aj:(y.key.toList==xk.toList)=ak at *;generalize av:decide (y.ws=d)=V at *;have al:=Aa aj;clear aj av;generalize am:y.key=yk at *;have a8:=Aa am;clear am;generalize y.ws.length=aw at *;go_upto_region 6 with fail
   go_cut [24] from 16 to 24 (fun c X=>c=.bool ak/\Below wr.heap.size wr X)
   case first =>
    have v2:=fun p:Gr wr=>A6 q p
    have a9:=fun p:Gr wr=>A6 G p
    have w1:=fun p:Gr wr=>A6 H p
    have an:=al.out;clear I z h q G v H r al;refine AQ (by kernel_rfl) (by kernel_rfl) ?_;iterate 9 quiet_step (fail)
    refine wpQuiet_nil ?_;rintro _ ⟨⟨ax,Y⟩,rfl⟩;go_wp2_with fail
    go_meet;exact⟨by first | rfl | (rw[<-an];rfl) | simp[an],Y⟩
   case rest =>
    obtain⟨l,ay⟩:∃l,l=wc:=⟨_,rfl⟩;subst ay;obtain⟨rfl,bk'⟩:=hcut;have Z:=k.trans (bk'.mono k.size);cases ak
    ·have A:=Aa (show a=keyN ((D++[y]).map LAt.I) xk/\c=sameN ((D++[y]).map LAt.I) ⟨xk,d⟩ from by rw[h.out.1,h.out.2];exact⟨rfl,rfl⟩);clear h I q G v H r;go_wp2;go_roundw;case rel=>exact⟨D++[y],T,a,c,by simp,rfl,rfl,by simp;omega,by simp;omega,by simp;omega,z,A,Z⟩
     case measure=>simp[intOf];omega
    ·have v2:=fun p:Gr l=>A6 ((bk'.cell (aB wr _ q)).trans q) p
     have u1:=fun p:Gr l=>A6 ((bk'.cell (aB wr _ v)).trans v) p
     have w2:=fun p:Gr l=>A6 ((bk'.cell (aB wr _ r)).trans r) p
     have ao:∀p:Gr l,Calls prog 91 #[aF ag aw yc,aF xa N xc] p.u fun e w'=>e=aH (.bool V)/\Below p.u.heap.size p.u w':=fun p=>I p.u (bk'.trans (p.h.mono bk'.size))
     clear I q G v H r;go_upto_region 8 with fail
     go_cut [35] from 27 to 35 (fun c X=>c=.bool V/\Below l.heap.size l X)
     case first =>
      clear h z;refine AQ (by kernel_rfl) (by kernel_rfl) ?_;iterate 8 quiet_step (fail)
      quiet_step ((go_at_call 91;refine DH (ao _)))
      refine wpQuiet_nil ?_;rintro _ ⟨⟨ax,Y⟩,rfl⟩;go_wp2_with fail
      go_meet;exact⟨rfl,Y⟩
     case rest =>
      obtain⟨ap,az⟩:∃ap,ap=wc:=⟨_,rfl⟩;subst az;obtain⟨rfl,a0⟩:=hcut;have BM:=Z.trans (a0.mono Z.size);clear ao v2 u1 w2;cases V
      ·have A:=Aa (show a+1=keyN ((D++[y]).map LAt.I) xk/\c=sameN ((D++[y]).map LAt.I) ⟨xk,d⟩ from by rw[h.out.1,h.out.2];exact⟨rfl,rfl⟩);clear h;go_wp2;go_roundw;case rel=>exact⟨D++[y],T,a+1,c,by simp,by go_num,rfl,by simp;omega,by simp;omega,by simp;omega,z,A,BM⟩
       case measure=>simp[intOf];omega
      ·have A:=Aa (show a+1=keyN ((D++[y]).map LAt.I) xk/\c+1=sameN ((D++[y]).map LAt.I) ⟨xk,d⟩ from by rw[h.out.1,h.out.2];exact⟨rfl,rfl⟩);clear h;go_wp2;go_roundw;case rel=>exact⟨D++[y],T,a+1,c+1,by simp,by go_num,by go_num,by simp;omega,by simp;omega,by simp;omega,z,A,BM⟩
       case measure=>simp[intOf];omega
variable {B:Nat}
theorem Az.sub{L N:List MRow}(h:Az B w L)(a:N.Sublist L):Az B w N:=⟨fun r b=>h.1 r (a.subset b),h.2.sublist a⟩
def Adh(p:Plain)(P:Nat)(W:World)(e:Ending)(w':World):Prop:=∃(g m c:Nat) (key:ByteArray) (av:Option Addr) (d cv:Nat) (a:Option Addr) (b:Nat),e=aH (aF (aO ⟨g,0,aV⟩) m c)/\((0:Int)<=(P:Int)/\(P:Int)<(m:Int))/\(w'.cell? ⟨g,P*4,aV⟩=aO (aC key)/\w'.cell? ⟨g,P*4+1,aV⟩=aO (aF av d cv)/\w'.cell? ⟨g,P*4+2,aV⟩=aO (.bool p.2.2.1)/\w'.cell? ⟨g,P*4+3,aV⟩=aO (aF a p.2.2.2.length b))/\(w'.ownsRow W.heap.size 9 1 (aF a p.2.2.2.length b) p.2.2.2.length (strs p.2.2.2))/\Below W.heap.size W w'
theorem Adi{key:ByteArray}{p:Plain}(u:Bt (rulesOf kind) key=aO p):∃P:Nat,placeI (rulesOf kind) key=(P:Int)/\∀W:World,Calls prog 56 #[aC kind] W fun e w'=>Adh p P W e w':=by
 obtain⟨i,w,j,_⟩:=Dk u;refine⟨i,w,fun W=>(Da kind W).mono ?_⟩;rintro e w' ⟨v,L,rfl,q,d,x⟩;have y:i<L.length:=by have:=(aK.1 j).1;rw[<-q,aS]at this;exact this
 obtain⟨f,a,g,rfl,s⟩:=AS L i y;have t:a.I=p:=by
  rw[<-q,<-s]at j;simpa using j
 have z:=(show D6 w' v (f++a::g) from d.rin).2 a (by simp);have h:=(AX.rm d).defs;obtain⟨I,A,rfl,k⟩:=Ak (show w'.ownsRow W.heap.size 54 4 v (f++a::g).length ((f++a::g).flatMap AO.cells) from Az.head d);rcases k with k | ⟨B,rfl⟩
 ·simp at k
 have b:=fun c b=>(AX.rm d).cell (D:=f) (r:=a) (T:=g) c b
 obtain⟨⟨av,C,cv,ev⟩,_⟩:=z;obtain⟨E,F,l,_⟩:=Ak h;have G:a.many=p.2.2.1:=by rw[<-t];rfl
 have H:a.ds=p.2.2.2:=by rw[<-t];rfl
 rw[H]at h l;rw[l]at h;have k0:=b 0 (by decide);have m:=b 1 (by decide);have n:=b 2 (by decide);have o:=b 3 (by decide);rw[s]at k0 m n o;simp only[AO.cells,aJ,aQ,ev,l,G,Nat.add_zero]at k0 m n o;exact⟨B,_,A,a.key,av,C,cv,E,F,rfl,⟨by omega,by simp;omega⟩,⟨k0,m,n,o⟩,h,x⟩
variable {α:Type}{j:Nat}{va vb:Value}{ys:List (List UInt8)}
theorem Abm(x y:List UInt8):((⟨x.toArray⟩:ByteArray).toList != (⟨y.toArray⟩:ByteArray).toList)=!decide (x=y):=by
 rw[bE,bE];by_cases h:x=y
 ·simp[h]
 ·simp[h]
theorem YE{xs ys:List α}(h:xs.take j=ys.take j)(a:j<xs.length)(b:j<ys.length)(e:xs[j]=ys[j]):xs.take (j+1)=ys.take (j+1):=by
 rw[bA a,bA b,h,e]
theorem Abn{xs:List (List UInt8)}(o:Ap w va xs.length 1 (strs xs))(q:Ap w vb ys.length 1 (strs ys))(S:xs.length<=1048576):Calls prog 96 #[va,vb] w fun e w'=>e=aH (.bool (decide (xs=ys)))/\Below w.heap.size w w':=by
 obtain⟨ao,ca,rfl⟩:=o.ae;obtain⟨bo,cb,rfl⟩:=q.ae;by_cases r:xs.length=ys.length
 ·have z:=Aa o;have A:=Aa q;have s:=Aa (show ∀b:Bool,(b=true↔xs=ys)->b=decide (xs=ys) from fun b h=>by
   by_cases e:xs=ys
   ·rw[h.2 e];simp[e]
   ·have:b=false:=by cases b;rfl;exact absurd (h.1 rfl) e
    rw[this];simp[e])
  rw[<-r];generalize C:xs.length=n at *;have a:=Aa C;have d:=Aa r;clear o q C r;have M:((n:Int) != (n:Int))=false:=by simp
  go_enter func96,ntmps96;go_wp2;go_loopw [5] (fun i wr=>∃j:Nat,j<=n/\i=.int .i64 (j:Int)/\Hid (xs.take j=ys.take j)/\Below w.heap.size w wr) (fun i _=>n-(intOf i).toNat)
  case atStart=>exact⟨0,by omega,rfl,(by simp:xs.take 0=ys.take 0),aG _ _⟩
  case round =>
   obtain⟨j,T,rfl,t,f⟩:=hrel;by_cases D:j<n
   ·have E:j<xs.length:=by rw[a.out];exact D
    have F:j<ys.length:=by rw[<-d.out];exact D
    obtain⟨g,off,rfl,G⟩:=(z.out.V f).word j E;obtain⟨U,V,rfl,H⟩:=(A.out.V f).word j F;have B:=Aa (Abm xs[j] ys[j]);have W:(0:Int)<=(j:Int):=by omega
    have i2:(j:Int)<(n:Int):=by omega
    have u:=Aa (show xs[j]=ys[j]->xs.take (j+1)=ys.take (j+1) from YE t.out E F);have v:=Aa (show ¬xs[j]=ys[j]->false=decide (xs=ys) from fun N=>s.out false ⟨(fun h=>by cases h),(fun h=>absurd (by subst h;rfl) N)⟩);clear t s z A;have v1:=fun p:Gr wr=>A6 G p
    have v2:=fun p:Gr wr=>A6 H p
    clear G H;generalize I:(!decide (xs[j]=ys[j]))=J at B;have k:=Aa I;clear I;generalize (⟨xs[j].toArray⟩:ByteArray)=x at *;generalize (⟨ys[j].toArray⟩:ByteArray)=y at *;go_upto_region 6 with fail
    go_cut [25] from 17 to 25 (fun c O=>c=.bool J/\Below wr.heap.size wr O)
    case first =>
     clear u v k a d;refine AQ (by kernel_rfl) (by kernel_rfl) ?_;iterate 9 quiet_step (fail)
     refine wpQuiet_nil ?_;rintro _ ⟨⟨X,P⟩,rfl⟩;go_wp2_with fail
     go_meet;exact⟨by rw[<-B.out];first | rfl | simp,P⟩
    case rest =>
     obtain⟨K,Q⟩:∃K,K=wc:=⟨_,rfl⟩;subst Q;obtain⟨rfl,bk⟩:=hcut;have L:=f.trans (bk.mono f.size);clear v1 v2 B;cases J
     ·have R:Hid (xs.take (j+1)=ys.take (j+1)):=u.out (by simpa using k.out);clear u v k a d;go_wp2;go_roundw;case rel=>exact⟨j+1,by omega,by go_num,R,L⟩
      case measure=>simp[intOf];omega
     ·have l:=Aa (v.out (by simpa using k.out));clear u v k a d;go_wp2;go_ret;exact⟨congrArg (fun b=>aP (aX b)) l.out,L⟩
   ·obtain rfl:j=n:=by omega
    have l:=Aa (s.out true ⟨fun _=>by
     have:=t.out;rw[bG (by rw[a.out];exact aR _),bG (by rw[<-d.out];exact aR _)]at this;exact this,fun _=>rfl⟩)
    clear t s z A a d;go_wp2;go_ret;exact⟨congrArg (fun b=>aP (aX b)) l.out,f⟩
 ·have l:decide (xs=ys)=false:=by
   rw[decide_eq_false_iff_not];exact fun e=>r (by rw[e])
  rw[l];have M:((xs.length:Int) != (ys.length:Int))=true:=by simp;omega
  clear o q;generalize xs.length=n at *;generalize ys.length=m at *;go_enter func96,ntmps96;go_wp2;go_ret;exact⟨rfl,aG _ _⟩
open Classical in
noncomputable def eqB{α:Type}(a b:α):Bool:=decide (a=b)
theorem EH{a b:α}(h:a=b):eqB a b=true:=by unfold eqB;simp[h]
theorem Gv{a b:α}(h:a≠b):eqB a b=false:=by unfold eqB;simp[h]
theorem MA{a b:α}:eqB a b=true↔a=b:=by unfold eqB;simp
theorem RI(a b:ByteArray):(a.toList != b.toList)=!eqB a b:=by
 by_cases h:a=b
 ·rw[EH h,h];simp
 ·rw[Gv h];simp only[bne_iff_ne,ne_eq,Bool.not_false];exact fun e=>h (toList_inj e)
theorem Abo{xs ys:List LAt}(z:An w va xs)(A:An w vb ys)(L:Ah xs):Calls prog 31 #[va,vb] w fun e w'=>e=aH (.bool (eqB (xs.map LAt.I) (ys.map LAt.I)))/\Below w.heap.size w w':=by
 obtain⟨ao,ca,rfl⟩:=z.1.ae;obtain⟨bo,cb,rfl⟩:=A.1.ae;by_cases B:xs.length=ys.length
 ·have M:=Aa z;have N:=Aa A;have O:=Aa L;have ay:=L.1;rw[<-B];generalize aa:xs.length=n at *;have C:=Aa aa;have E:=Aa B;clear z A L aa B;have ak:((n:Int) != (n:Int))=false:=by simp
  go_enter func31,ntmps31;go_wp2;go_loopw [5] (fun i wr=>∃(D T f l:List LAt),i=.int .i64 (D.length:Int)/\D.length<=n/\Hid (xs=D++T/\ys=f++l/\D.length=f.length/\D.map LAt.I=f.map LAt.I)/\Below w.heap.size w wr) (fun i _=>n-(intOf i).toNat)
  case atStart=>exact⟨[],xs,[],ys,rfl,by simp,(⟨rfl,rfl,rfl,rfl⟩:xs=[]++xs/\ys=[]++ys/\_),aG _ _⟩
  case round =>
   obtain⟨D,T,f,l,rfl,az,o,q⟩:=hrel;cases T with
   | nil =>
    have al:D.length=n:=by rw[<-C.out,o.out.1];simp
    have a0:¬((D.length:Int)<(n:Int)):=by omega
    have r:=Aa (show true=eqB (xs.map LAt.I) (ys.map LAt.I) from by
     obtain⟨d,a,s,F⟩:=o.out;have:l=[]:=by
      have h1:=E.out;have k:=congrArg aT a;rw[aY]at k;exact bF.1 (by omega)
     subst this;rw[bC]at d a;rw[d,a,EH F])
    clear o M N O C E;go_wp2;go_ret;exact⟨congrArg (fun b=>aP (aX b)) r.out,q⟩
   | cons x T =>
    obtain⟨d,a,s,F⟩:=o.out;have al:D.length<n:=by have h1:=C.out;rw[d]at h1;simp at h1;omega
    obtain⟨y,G,rfl⟩:∃y G,l=y::G:=by
     cases l with
     | nil =>
      exfalso;have h1:=E.out;have k:=congrArg aT a;simp at k;omega
     | cons y t=>exact⟨y,t,rfl⟩
    have P:x∈xs:=by rw[d];simp
    have ab:y∈ys:=by rw[a];simp
    have Q:=M.out.V q;have R:=N.out.V q;have S:=Q.1;have U:=R.1;rw[d]at S;rw[a]at U;obtain⟨g,off,rfl,ac,V⟩:=S.line;obtain⟨a1,a2,rfl,W,H⟩:=U.line;rw[<-s]at W H;have u:=Q.2 x P;have v:=R.2 y ab;obtain⟨xa,xc,ad⟩:=Ap.ae u;obtain⟨am,yc,ae⟩:=Ap.ae v;unfold BL at u v;rw[ad]at V u;rw[ae]at H v;have an:=(O.out.2 x P).1;have af:∀p:Gr wr,Calls prog 96 #[aF xa x.ws.length xc,aF am y.ws.length yc] p.u fun e w'=>e=aH (.bool (decide (x.ws=y.ws)))/\Below p.u.heap.size p.u w':=fun p=>Abn (u.V p.h) (v.V p.h) an
    have j:=RI x.key y.key;have I:=Aa (show (!eqB x.key y.key || !decide (x.ws=y.ws))=false->(xs=(D++[x])++T/\ys=(f++[y])++G/\(D++[x]).length=(f++[y]).length/\(D++[x]).map LAt.I=(f++[y]).map LAt.I) from fun h=>by
     simp only[bK,bO]at h;refine⟨by rw[d];simp,by rw[a];simp,by simp[s],?_⟩;rw[aI,aI,F];congr 1;show [LAt.I x]=[LAt.I y]
     unfold LAt.I;rw[MA.1 h.1,of_decide_eq_true h.2])
    have J:=Aa (show (!eqB x.key y.key || !decide (x.ws=y.ws))=true->false=eqB (xs.map LAt.I) (ys.map LAt.I) from fun h=>by
     rw[Gv];intro e;rw[d,a,aI,aI]at e;have k:=(bD e (by simp[s])).2;rw[aU,aU]at k;have ag:=(bN k).1;have ap:x.key=y.key:=congrArg PLine.key ag;have aq:x.ws=y.ws:=congrArg PLine.ws ag;rw[EH ap]at h;simp[aq]at h)
    have a3:((D.length:Int)<(n:Int)):=by omega
    have a4:(0:Int)<=(D.length:Int):=by omega
    have v1:=fun p:Gr wr=>A6 ac p
    have v2:=fun p:Gr wr=>A6 V p
    have v3:=fun p:Gr wr=>A6 W p
    have v4:=fun p:Gr wr=>A6 H p
    clear o M N O C E d a s F Q R S U u v ad ae ac V W H P ab;have a5:(D++[x]).length=D.length+1:=by simp
    generalize decide (x.ws=y.ws)=ah at *;generalize eqB x.key y.key=X at *;generalize x.key=xk at *;generalize y.key=yk at *;generalize x.ws.length=a6 at *;generalize y.ws.length=a7 at *;go_upto_region 6 with fail
    go_cut [41] from 17 to 41 (fun c ar=>c=.bool (!X || !ah)/\Below wr.heap.size wr ar)
    case first =>
     clear I J;cases X
     ·have Y:¬xk.toList=yk.toList:=by simpa using j
      have au:(xk.toList != yk.toList)=true:=j;have a8:(xk.toList==yk.toList)=false:=by simpa using Y
      have a9:decide (xk.toList=yk.toList)=false:=by simpa using Y
      clear j;refine AQ (by kernel_rfl) (by kernel_rfl) ?_;iterate 12 quiet_step (fail)
      iterate 12 (with_reducible refine AY ?_ ?_;kernel_rfl;simp only[aL,aA,aD,aE])
      quiet_step (fail)
      refine wpQuiet_nil ?_;rintro _ ⟨⟨av,Z⟩,rfl⟩;go_wp2_with fail
      go_meet;exact⟨rfl,Z⟩
     ·have Y:xk.toList=yk.toList:=by simpa using j
      have au:(xk.toList != yk.toList)=false:=j;clear j;refine AQ (by kernel_rfl) (by kernel_rfl) ?_;iterate 22 quiet_step (fail)
      quiet_step ((go_at_call 96;refine DH (af _)))
      iterate 2 quiet_step (fail)
      refine wpQuiet_nil ?_;rintro _ ⟨⟨av,Z⟩,rfl⟩;go_wp2_with fail
      go_meet;exact⟨rfl,Z⟩
    case rest =>
     obtain⟨ai,aw⟩:∃ai,ai=wc:=⟨_,rfl⟩;subst aw;obtain⟨rfl,bk⟩:=hcut;have aj:=q.trans (bk.mono q.size);clear v1 v2 v3 v4 af j;cases K:(!X || !ah)
     ·have ax:Hid _:=I.out K;clear I J K;go_wp2;go_roundw;case rel=>exact⟨D++[x],T,f++[y],G,by simp,by omega,ax,aj⟩
      case measure=>simp[intOf];omega
     ·have r:=Aa (J.out K);clear I J K;go_wp2;go_ret;exact⟨congrArg (fun b=>aP (aX b)) r.out,aj⟩
 ·have r:eqB (xs.map LAt.I) (ys.map LAt.I)=false:=Gv fun e=>B (by have:=congrArg aT e;simpa using this)
  rw[r];have ak:((xs.length:Int) != (ys.length:Int))=true:=by simp;omega
  clear z A;generalize xs.length=n at *;generalize ys.length=m at *;go_enter func31,ntmps31;go_wp2;go_ret;exact⟨rfl,aG _ _⟩
theorem Abp{xs ys:List BAt}(E:As w va xs)(F:As w vb ys)(R:Ax xs):Calls prog 12 #[bI #[va],bI #[vb]] w fun e w'=>e=aH (.bool (eqB (xs.map BAt.I) (ys.map BAt.I)))/\Below w.heap.size w w':=by
 obtain⟨ao,ca,rfl⟩:=E.1.ae;obtain⟨bo,cb,rfl⟩:=F.1.ae;have S:=BO (w:=w) (cs:=#[aF ao xs.length ca]) (ds:=#[aF bo ys.length cb]) (T:=25) (U:=25);have c0:=S.1 0;have q:=S.2 0;simp only[aM,aJ]at c0 q;clear S;have f:Below w.heap.size w ((w.alloc (aN #[aF ao xs.length ca] 25)).alloc (aN #[aF bo ys.length cb] 25)):=((aG _ _).alloc (aR _) _).alloc (by simp) _;by_cases G:xs.length=ys.length
 ·have H:=Aa (E.V f);have I:=Aa (F.V f);have V:=Aa R;have bf:=R.1;rw[<-G]at q f c0 H I⊢;generalize aj:xs.length=n at *;have J:=Aa aj;have K:=Aa G;clear E F R aj G;have a0:((n:Int) != (n:Int))=false:=by simp
  generalize ak:(w.alloc (aN #[aF ao n ca] 25)).alloc (aN #[aF bo n cb] 25)=W0 at *;go_enter func12,ntmps12;go_wp2;go_loopw [5] (fun i wr=>∃(D T j u:List BAt),i=.int .i64 (D.length:Int)/\D.length<=n/\Hid (xs=D++T/\ys=j++u/\D.length=j.length/\D.map BAt.I=j.map BAt.I)/\Below W0.heap.size W0 wr) (fun i _=>n-(intOf i).toNat)
  case atStart =>
   try rw[ak]
   exact⟨[],xs,[],ys,rfl,by simp,(⟨rfl,rfl,rfl,rfl⟩:xs=[]++xs/\ys=[]++ys/\_),aG _ _⟩
  case round =>
   obtain⟨D,T,j,u,rfl,bg,v,l⟩:=hrel;have a1:=f.trans (l.mono f.size);have al:=(l.cell (aB W0 _ c0)).trans c0;have am:=(l.cell (aB W0 _ q)).trans q;clear ak;cases T with
   | nil =>
    have a2:D.length=n:=by rw[<-J.out,v.out.1];simp
    have bh:¬((D.length:Int)<(n:Int)):=by omega
    have r:=Aa (show true=eqB (xs.map BAt.I) (ys.map BAt.I) from by
     obtain⟨d,a,z,L⟩:=v.out;have:u=[]:=by
      have h1:=K.out;have s:=congrArg aT a;rw[aY]at s;exact bF.1 (by omega)
     subst this;rw[bC]at d a;rw[d,a,EH L])
    clear v H I V J K c0 q;go_wp2;go_ret;exact⟨congrArg (fun b=>aP (aX b)) r.out,a1⟩
   | cons x T =>
    obtain⟨d,a,z,L⟩:=v.out;have a2:D.length<n:=by have h1:=J.out;rw[d]at h1;simp at h1;omega
    obtain⟨y,M,rfl⟩:∃y M,u=y::M:=by
     cases u with
     | nil =>
      exfalso;have h1:=K.out;have s:=congrArg aT a;simp at s;omega
     | cons y t=>exact⟨y,t,rfl⟩
    have W:x∈xs:=by rw[d];simp
    have an:y∈ys:=by rw[a];simp
    have X:=H.out.V l;have Y:=I.out.V l;have Z:=X.1;have aa:=Y.1;rw[d]at Z;rw[a]at aa;obtain⟨g,off,rfl,ap,aq,ab⟩:=Z.block;obtain⟨bi,bj,rfl,ac,ad,N⟩:=aa.block;rw[<-z]at ac ad N;have A:=X.2 x W;have B:=Y.2 y an;obtain⟨xa,xc,ar⟩:=A.1.ae;obtain⟨a3,yc,au⟩:=B.1.ae;unfold AH at A B;rw[ar]at ab A;rw[au]at N B;have a4:=(V.out.2 x W).2;have av:∀p:Gr wr,Calls prog 31 #[aF xa x.ls.length xc,aF a3 y.ls.length yc] p.u fun e w'=>e=aH (.bool (eqB (x.ls.map LAt.I) (y.ls.map LAt.I)))/\Below p.u.heap.size p.u w':=fun p=>Abo (A.V p.h) (B.V p.h) a4
    have o:=RI x.aa y.aa;have k:=RI x.name y.name;have O:=Aa (show (!eqB x.aa y.aa || !eqB x.name y.name || !eqB (x.ls.map LAt.I) (y.ls.map LAt.I))=false->(xs=(D++[x])++T/\ys=(j++[y])++M/\(D++[x]).length=(j++[y]).length/\(D++[x]).map BAt.I=(j++[y]).map BAt.I) from fun h=>by
     simp only[bK,bO]at h;refine⟨by rw[d];simp,by rw[a];simp,by simp[z],?_⟩;rw[aI,aI,L];congr 1;show [BAt.I x]=[BAt.I y]
     unfold BAt.I;rw[MA.1 h.1.1,MA.1 h.1.2,MA.1 h.2])
    have P:=Aa (show (!eqB x.aa y.aa || !eqB x.name y.name || !eqB (x.ls.map LAt.I) (y.ls.map LAt.I))=true->false=eqB (xs.map BAt.I) (ys.map BAt.I) from fun h=>by
     rw[Gv];intro e;rw[d,a,aI,aI]at e;have s:=(bD e (by simp[z])).2;rw[aU,aU]at s;have ae:=(bN s).1;have a5:x.aa=y.aa:=congrArg PBlock.aa ae;have a6:x.name=y.name:=congrArg PBlock.name ae;have a7:x.ls.map LAt.I=y.ls.map LAt.I:=congrArg PBlock.ac ae;rw[EH a5,EH a6,EH a7]at h;cases h)
    have bl:((D.length:Int)<(n:Int)):=by omega
    have bm:(0:Int)<=(D.length:Int):=by omega
    have u1:=fun p:Gr wr=>A6 al p
    have u2:=fun p:Gr wr=>A6 am p
    have v1:=fun p:Gr wr=>A6 ap p
    have v2:=fun p:Gr wr=>A6 aq p
    have v3:=fun p:Gr wr=>A6 ab p
    have v4:=fun p:Gr wr=>A6 ac p
    have v5:=fun p:Gr wr=>A6 ad p
    have a8:=fun p:Gr wr=>A6 N p
    clear v H I V J K d a z L X Y Z aa A B ar au ap aq ab ac ad N W an c0 q;have bn:(D++[x]).length=D.length+1:=by simp
    generalize eqB (x.ls.map LAt.I) (y.ls.map LAt.I)=aw at *;generalize eqB x.aa y.aa=af at *;generalize eqB x.name y.name=ag at *;generalize x.aa=xk at *;generalize y.aa=yk at *;generalize x.name=xn at *;generalize y.name=yn at *;generalize x.ls.length=bp at *;generalize y.ls.length=bq at *;go_upto_region 6 with fail
    go_cut [63] from 20 to 63 (fun c a9=>c=.bool (!af || !ag || !aw)/\Below wr.heap.size wr a9)
    case first =>
     clear O P al am;cases af
     ·have ah:¬xk.toList=yk.toList:=by simpa using o
      have ba:(xk.toList != yk.toList)=true:=o;have br:(xk.toList==yk.toList)=false:=by simpa using ah
      have bs:decide (xk.toList=yk.toList)=false:=by simpa using ah
      clear o k;refine AQ (by kernel_rfl) (by kernel_rfl) ?_;iterate 14 quiet_step (fail)
      iterate 13 (with_reducible refine AY ?_ ?_;kernel_rfl;simp only[aL,aA,aD,aE])
      iterate 2 quiet_step (fail)
      iterate 14 (with_reducible refine AY ?_ ?_;kernel_rfl;simp only[aL,aA,aD,aE])
      quiet_step (fail)
      refine wpQuiet_nil ?_;rintro _ ⟨⟨ax,C⟩,rfl⟩;go_wp2_with fail
      go_meet;exact⟨rfl,C⟩
     ·have ah:xk.toList=yk.toList:=by simpa using o
      have ba:(xk.toList != yk.toList)=false:=o;clear o;cases ag
      ·have ai:¬xn.toList=yn.toList:=by simpa using k
       have bb:(xn.toList != yn.toList)=true:=k;have bt:(xn.toList==yn.toList)=false:=by simpa using ai
       have bu:decide (xn.toList=yn.toList)=false:=by simpa using ai
       clear k;refine AQ (by kernel_rfl) (by kernel_rfl) ?_;iterate 29 quiet_step (fail)
       iterate 14 (with_reducible refine AY ?_ ?_;kernel_rfl;simp only[aL,aA,aD,aE])
       quiet_step (fail)
       refine wpQuiet_nil ?_;rintro _ ⟨⟨ax,C⟩,rfl⟩;go_wp2_with fail
       go_meet;exact⟨rfl,C⟩
      ·have ai:xn.toList=yn.toList:=by simpa using k
       have bb:(xn.toList != yn.toList)=false:=k;clear k;refine AQ (by kernel_rfl) (by kernel_rfl) ?_;iterate 41 quiet_step (fail)
       quiet_step ((go_at_call 31;refine DH (av _)))
       iterate 2 quiet_step (fail)
       refine wpQuiet_nil ?_;rintro _ ⟨⟨ax,C⟩,rfl⟩;go_wp2_with fail
       go_meet;exact⟨rfl,C⟩
    case rest =>
     obtain⟨ay,bc⟩:∃ay,ay=wc:=⟨_,rfl⟩;subst bc;obtain⟨rfl,bk⟩:=hcut;have az:=l.trans (bk.mono l.size);have bd:=f.trans (az.mono f.size);clear v1 v2 v3 v4 v5 a8 u1 u2 av o k;cases Q:(!af || !ag || !aw)
     ·have be:Hid _:=O.out Q;clear O P Q;go_wp2;go_roundw;case rel=>exact⟨D++[x],T,j++[y],M,by simp,by omega,be,az⟩
      case measure=>simp[intOf];omega
     ·have r:=Aa (P.out Q);clear O P Q;go_wp2;go_ret;exact⟨congrArg (fun b=>aP (aX b)) r.out,bd⟩
 ·have r:eqB (xs.map BAt.I) (ys.map BAt.I)=false:=Gv fun e=>G (by have:=congrArg aT e;simpa using this)
  rw[r];have a0:((xs.length:Int) != (ys.length:Int))=true:=by simp;omega
  clear E F r;generalize xs.length=n at *;generalize ys.length=m at *;go_enter func12,ntmps12;go_wp2;go_ret;exact⟨rfl,f⟩
