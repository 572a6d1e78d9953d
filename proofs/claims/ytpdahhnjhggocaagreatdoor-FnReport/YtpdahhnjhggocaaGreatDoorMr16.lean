import Derived.Test.YtpdahhnjhggocaaGreatDoorMr3
import Derived.Test.YtpdahhnjhggocaaGreatDoorMr12
open Go.Proofs.Tryz
open Go.Value renaming string->aA,slice->aB,tuple->aO,pointer->aT,agg->aU,slice->bB
open Option renaming none->aC,some->aF,map_some->bU,isNone_iff_eq_none->bY,isNone_some->cH,getD_some->cL,map_none->cP
open Go.World renaming block_lt_of_cell?->aD,size_alloc->aS,ownsRow_lit->cK
open List renaming getElem?_cons_zero->aE,getElem?_toArray->aG,getElem?_cons_succ->aI,length_map->aP,getElem?_append_right->aV,map_append->aY,findIdx?_eq_none_iff->bA,mem_singleton->bC,findIdx?_eq_some_iff_getElem->bD,getElem_cons_zero->bE,take_length->bF,setIfInBounds_toArray->bJ,getElem?_map->bK,getElem?_eq_getElem->bL,flatMap_append->bN,set_cons_zero->bO,set_cons_succ->bP,find?_eq_none->bQ,size_toArray->bR,length_cons->bV,any_eq_true->bW,mem_append->bX,map_cons->cB,getElem_cons_succ->cD,flatMap_singleton->cE,mem_cons_of_mem->cI,countP_pos_iff->cJ,mem_cons_self->cM,map_singleton->cN,length_append->cO,append_assoc->cR,map_toArray->cS,getElem_mem->cT,length_nil->cV,map_nil->cY
open Go.Obj renaming cells->aH
open Go.Ending renaming returned->aJ
open Array renaming getElem?_eq_some_iff->aK
open Nat renaming le_refl->aL,le_trans->bI,sub_self->bS,add_zero->bT,zero_add->cG,lt_of_lt_of_le->cQ
open Go.RowKit.Below renaming refl->aM,drew->dA
open Go renaming execOp->aN,bodyPost_ret->aQ,heap_setCell_same->aR,results->aZ,wpQuiet_nil->bH,Ending->bZ,info_parts->cF,maxLen->cW,setCell_eq_setRow->cX
open Go.Act renaming eval->aW
open Go.Oper renaming wp->aX
open Go.NoPanic renaming normal->bG
open Int renaming natCast_add->bM
open Ne renaming symm->cA
open Option.some renaming inj->cC
open Bool renaming and_eq_true->cU
open Go.Code renaming region->cZ
namespace Go.Proofs.YtpdahhnjhggocaaGreatDoor
open Go.RowKit
set_option maxHeartbeats 16000000
set_option maxRecDepth 100000
variable {m n:Nat}{W W' w:World}{s:ByteArray}
def Cy(R:Nat)(rest:ByteArray)(m:Nat)(W:World):Prop:=W.heap[R]?=aF (aH #[aA rest,.int .i64 (m:Int)] 198 (0,0))
def Ja(m:Nat)(a:Int):Value:=.iface 110 (aU #[.int .i64 (m:Int),.int .i64 a])
theorem FU{R:Nat}{rest:ByteArray}(h:Cy R rest m W)(a:Int):Calls prog 232 #[aT (aF ⟨R,0,aC⟩),.int .i64 a] W fun e w'=>e=aJ (Ja m a)/\w'=W:=by
 have b:=Aa h 1;simp only[aG,aE,aI]at b;go_enter func232,ntmps232;go_wp2;go_ret;exact⟨rfl,rfl⟩
def Ib(R n:Nat)(ls:List (List UInt8))(w:World)(e:bZ)(w':World):Prop:=w.grownBy w' (aF R)/\match Ds n ls with
 | .ended m=>e=aJ (aO #[aB aC 0 0,.nilIface])/\Cy R ⟨#[]⟩ m w'
 | .bad m=>e=aJ (aO #[aB aC 0 0,Ja m 1])
 | .words m x xs rest=>∃a c r,e=aJ (aO #[aB a (xs.length+1) c,.nilIface])/\textLines r.data.toList=rest/\r.size<=1048576/\Cy R r m w'/\w'.ownsRow w.heap.size 9 1 (aB a (xs.length+1) c) (xs.length+1) (strs (x::xs))
def VZ(R:Nat)(W:World):Nat:=match W.cell? ⟨R,0,aC⟩ with
 | some (aA s)=>s.size
 | _=>0
theorem Cy.len{R:Nat}{rest:ByteArray}(h:Cy R rest m W):VZ R W=rest.size:=by
 have c0:=Aa h 0;simp only[aG,aE]at c0;unfold VZ;rw[c0]
def US(R n:Nat)(ls:List (List UInt8))(w W:World):Prop:=∃(rest:ByteArray) (m:Nat),Cy R rest (m+1) W/\Ds m (textLines rest.data.toList)=Ds n ls/\rest.size<=1048576/\m+(textLines rest.data.toList).length=n+ls.length/\w.grownBy W (aF R)
theorem Cy.ai{R m':Nat}{rest:ByteArray}(h:Cy R rest m W):Cy R rest m' (W.setCell ⟨R,1,aC⟩ (.int .i64 (m':Int))):=by
 unfold Cy at *;rw[aR W R 1 _ _ _ h];rfl
theorem Cy.rest{R:Nat}{rest rest':ByteArray}(h:Cy R rest m W):Cy R rest' m (W.setCell ⟨R,0,aC⟩ (aA rest')):=by
 unfold Cy at *;rw[aR W R 0 _ _ _ h];rfl
theorem Cy.V{R:Nat}{rest:ByteArray}(h:Cy R rest m W)(a:Below W.heap.size W W'):Cy R rest m W':=(a.block R (aK.1 h).1).trans h
theorem Xq(h:s.size=0):s=⟨#[]⟩:=by
 cases s with
 | mk d=>have:d=#[]:=Array.eq_empty_of_size_eq_zero h;rw[this]
theorem OO{R:Nat}{rest:ByteArray}(h:Cy R rest n w)(J:rest.size<=1048576)(af:n+(textLines rest.data.toList).length<=1000000):Calls prog 186 #[aT (aF ⟨R,0,aC⟩)] w fun e w'=>Ib R n (textLines rest.data.toList) w e w':=by
 have k:=Aa h 1;have t:=Ac h 1;simp only[aG,aE,aI]at k;have C:=Ab (show US R n (textLines rest.data.toList) w (w.setCell ⟨R,1,aC⟩ (.int .i64 ((n+1:Nat):Int))) from⟨rest,n,h.ai,rfl,J,rfl,AN w R 1 _⟩);have K:((n+1:Nat):Int)=(n:Int)+1:=by omega
 rw[K]at C;generalize W:textLines rest.data.toList=ls at *;have ag:n<=1000000:=by omega
 clear h J W K;go_enter func186,ntmps186;go_wp2;go_loopw [] (fun wr=>US R n ls w wr) (fun wr=>VZ R wr)
 case atStart=>exact C.out
 case round =>
  clear C k t;obtain⟨rs,m,d,s,X,u,z⟩:=hrel;have c0:=Aa d 0;have k:=Aa d 1;have Y:=Ac d 0;have t:=Ac d 1;simp only[aG,aE,aI]at c0 k;by_cases L:rs.size=0
  ·obtain rfl:=Xq L;have i:=Ab (show Ib R n ls w (aJ (aO #[aB aC 0 0,.nilIface])) wr from⟨z,by rw[<-s];exact⟨rfl,d⟩⟩);clear d s u z L;go_wp2;go_ret2
   exact i.out
  ·have ah:=SJ rs (by omega);have D:rs.data.toList≠[]:=by
    intro e;have:rs.data.toList.length=rs.size:=by simp
    rw[e]at this;simp at this;omega
   have M:=UL rs wr X;have N:=Ab d;have Z:=Ab d.len;clear d;go_wp2_with (go_at_call 230;refine M.mono ?_)
   rintro e w2 ⟨x,y,ai,rfl,hcut,E⟩;have F:=hcut.ac D;have aj:=hcut.len;have ak:=hcut.lt D;have al:x.data.toList.length=x.size:=by simp
   have am:y.data.toList.length=y.size:=by simp
   have an:rs.data.toList.length=rs.size:=by simp
   rw[F]at s u;have A:=N.out.V E;have O:=A.rest (rest':=y);have g3:=Ah (Ah z (Ar E (aF R))) (AN w2 R 0 (aA y));have P:=Aa A 0;have k0:=Ac A 0;simp only[aG,aE]at P;have Q:=NU x (w2.setCell ⟨R,0,aC⟩ (aA y)) (by omega);have aa:=g3.size;have S:=Ab O;have T:=Ab g3;have o:=Ab s;have G:=Ab F;have ao:m<=1000000:=by simp only[bV]at u;omega
   clear M hcut F A O g3 s N c0 k Y t z E D;go_wp2_with (go_at_call 231;refine Q.mono ?_)
   rintro e c ⟨v,rfl,H,U⟩;obtain⟨f,wc,rfl,_⟩:=Al H;have p:=S.out.V U;have g4:=Ah T.out (Ar U (aF R));have l:=C3 H aa;clear Q S T H P k0;cases r:cutL x.data.toList with
   | none =>
    simp only[r,Option.isNone_none,Option.getD_none,cV]at l⊢;have g:=(aM c.heap.size c).alloc (aL _) (aH #[aB f 0 wc,.bool true] 124);have b:=p.V g;have j:=Ah g4 (Ar g (aF R));have ab:=FU b 1;have i:=Ab (show Ib R n ls w (aJ (aO #[aB aC 0 0,Ja (m+1) 1])) (c.alloc (aH #[aB f 0 wc,.bool true] 124)) from⟨j,by rw[<-o.out,Xi r]⟩);clear p b g4 j l o G;go_wp2_with (go_at_call 232;refine ab.mono ?_;rintro e ap ⟨rfl,rfl⟩)
    go_ret2
    exact i.out
   | some ac =>
    cases ac with
    | nil =>
     simp only[r,cH,cL,cV]at l⊢;have g:=(aM c.heap.size c).alloc (aL _) (aH #[aB f 0 wc,.bool false] 124);have b:=p.V g;have j:=Ah g4 (Ar g (aF R));have k:=Aa b 1;have t:=Ac b 1;simp only[aG,aE,aI]at k;have i:=Ab (show US R n ls w ((c.alloc (aH #[aB f 0 wc,.bool false] 124)).setCell ⟨R,1,aC⟩ (.int .i64 ((m+1+1:Nat):Int))) from⟨y,m+1,b.ai,by rw[<-o.out,S8 r],by omega,by simp only[bV]at u;omega,Ah j (AN _ R 1 _)⟩);have I:((m+1+1:Nat):Int)=((m+1:Nat):Int)+1:=by omega
     rw[I]at i;have V:VZ R ((c.alloc (aH #[aB f 0 wc,.bool false] 124)).setCell ⟨R,1,aC⟩ (.int .i64 (((m+1:Nat):Int)+1)))=y.size:=by rw[<-I];exact(b.ai (m':=m+1+1)).len
     have ad:=Ab V;clear p b g4 j l o G V I;go_wp2;go_roundw;case rel=>exact i.out
     case measure =>
      have q:=ad.out;rw[show ((m+1:Nat):Int)=(m:Int)+1 by omega]at q;rw[q,Z.out];omega
    | cons a B =>
     simp only[r,cH,cL,bV]at l⊢;have g:=(aM c.heap.size c).alloc (aL _) (aH #[aB f (B.length+1) wc,.bool false] 124);have b:=p.V g;have j:=Ah g4 (Ar g (aF R));have i:=Ab (show Ib R n ls w (aJ (aO #[aB f (B.length+1) wc,.nilIface])) (c.alloc (aH #[aB f (B.length+1) wc,.bool false] 124)) from⟨j,by rw[<-o.out,S9 r];exact⟨f,wc,y,rfl,rfl,by omega,b,AI l g⟩⟩);clear p b g4 j l o G;generalize B.length=ae at *;have aq:((ae:Int)+1>0):=by omega
     go_wp2;go_ret2
     exact i.out
variable {v:Value}{bs:List BAt}{wc:Nat}
def Ic(done:List PBlock)(m:Nat)(x:List UInt8)(xs:List (List UInt8))(w:World)(e:bZ)(w':World):Prop:=Below w.heap.size w w'/\(((Be done aC x xs).1≠0/\e=aJ (aO #[aU #[aA ⟨#[]⟩,aA ⟨#[]⟩,aB aC 0 0],Ja m (Be done aC x xs).1]))\/((Be done aC x xs).1=0/\∃a,xs=[a]/\e=aJ (aO #[aU #[aA (Az x),aA (Az a),aB aC 0 0],.nilIface])))
theorem Xr{R:Nat}{rest:ByteArray}{G:Option Addr}{x:List UInt8}{xs:List (List UInt8)}(h:Cy R rest m w)(o:Au w v bs)(T:bs.length<=1048576)(k:Am w (aB G (xs.length+1) wc) (xs.length+1) 1 (strs (x::xs)))(l:∀y∈x::xs,y.length<=200)(af:xs.length<=7):Calls prog 187 #[aT (aF ⟨R,0,aC⟩),v,aB G (xs.length+1) wc] w fun e w'=>Ic (bs.map BAt.I) m x xs w e w':=by
 have b0:=(aM w.heap.size w).alloc (aL _) (aH #[aA ⟨#[]⟩,aA ⟨#[]⟩,aB aC 0 0] 46);have z0:=Ai w (aH #[aA ⟨#[]⟩,aA ⟨#[]⟩,aB aC 0 0] 46);obtain⟨va,U,rfl⟩:=o.1.ad;by_cases H:xs.length=1
 ·match xs,H,k,l with
  | [a],_,k,l =>
   obtain⟨g,off,rfl,k0⟩:=k.word 0 (by simp);obtain⟨ag,ah,V,q⟩:=k.word 1 (by simp);cases V
   simp only[bE,cD,bT]at k0 q;have I:=aD _ _ k0;have J:=aD _ _ q;have i0:=(b0.cell I).trans k0;have r:=(b0.cell J).trans q;have K:=h.V b0;have L:=o.V b0;have d:=Aa z0 0;have f:=Aa z0 1;have i:=Aa z0 2;have A:=Ac z0 0;have B:=Ac z0 1;have C:=Ac z0 2;simp only[aG,aE,aI]at d f i;have X:(Az a).size<=1048576:=by
    have:=l a (by simp);show a.toArray.size<=1048576
    rw[bR];omega
   generalize s:headFault (bs.map BAt.I) (Az x) (Az a)=c;have n:∀W,Below w.heap.size w W->(c≠0->Ic (bs.map BAt.I) m x [a] w (aJ (aO #[aU #[aA ⟨#[]⟩,aA ⟨#[]⟩,aB aC 0 0],Ja m c])) W)/\(c=0->Ic (bs.map BAt.I) m x [a] w (aJ (aO #[aU #[aA (Az x),aA (Az a),aB aC 0 0],.nilIface])) W):=fun W t=>by
    constructor
    ·intro j;exact⟨t,.inl (by rw[DE,s];exact⟨j,rfl⟩)⟩
    ·intro j;exact⟨t,.inr (by rw[DE,s];exact⟨j,a,rfl,rfl⟩)⟩
   have u:=Ab n;clear n h o k l k0 q I J z0;generalize D:w.alloc (aH #[aA ⟨#[]⟩,aA ⟨#[]⟩,aB aC 0 0] 46)=w1 at *;have Y:=Ab D;have ai:w1.heap.size=w.heap.size+1:=by rw[<-D];simp
   clear D;have M:∀p:Gr w1,Calls prog 66 #[aB va bs.length U,aA ⟨x.toArray⟩,aA ⟨a.toArray⟩] p.u fun e w'=>e=aJ (.int .i64 c)/\Below p.u.heap.size p.u w':=fun p=>by
    have:=Ir (Az x) (Az a) (L.V p.h) T X;rw[s]at this;exact this
   have Z:=fun p:Gr w1=>Aq i0 p
   have u1:=fun p:Gr w1=>Aq r p
   have aa:=Ab K;have z:=Ab b0;clear L s K b0;generalize bs.length=ab at *;go_enter func187,ntmps187;go_upto_region 3 with fail
   rw[Y.out];refine A5 (by kernel_rfl) (by kernel_rfl) ?_;iterate 7 quiet_step (fail)
   quiet_step ((go_at_call 66;refine CD (M _)))
   quiet_step (fail)
   refine bH ?_;rintro _ ⟨⟨aj,b⟩,rfl⟩;have N:=z.out.trans (b.mono z.out.size);have E:=aa.out.V b;have ac:=(b.cell (aD _ _ i0)).trans i0;have ad:=(b.cell (aD _ _ r)).trans r;have O:=(b.cell (aD _ _ d)).trans d;have P:=(b.cell (aD _ _ f)).trans f;have Q:=(b.cell (aD _ _ i)).trans i;have t0:=(b.frozen (aD _ _ d)).trans A;have ak:=(b.frozen (aD _ _ f)).trans B;have t2:=(b.frozen (aD _ _ i)).trans C;clear M Z u1 i0 r d f i A B C;by_cases j:c=0
   ·subst j;clear E;go_wp2;go_region
    go_wp2;exact aQ (v:=aO #[aU #[aA ⟨x.toArray⟩,aA ⟨a.toArray⟩,aB aC 0 0],.nilIface]) (by simp[aZ,results187,go_sem,O,P,Q]) rfl ((u.out _ (dA (Ad (Ad (Ad N ⟨w.heap.size,0,aC⟩ (aL _) _) ⟨w.heap.size,1,aC⟩ (aL _) _) ⟨w.heap.size,2,aC⟩ (aL _) _))).2 (by trivial))
   ·have al:(c==0)=false:=by rw[beq_eq_false_iff_ne];exact j
    have F:=FU E c;clear E ac ad;go_wp2_with (go_at_call 232;refine F.mono ?_;rintro e ae ⟨rfl,rfl⟩)
    exact aQ (v:=aO #[aU #[aA ⟨#[]⟩,aA ⟨#[]⟩,aB aC 0 0],Ja m c]) (by simp[aZ,results187,go_sem,O,P,Q]) rfl ((u.out _ (Ad (Ad (Ad N ⟨w.heap.size,0,aC⟩ (aL _) _) ⟨w.heap.size,1,aC⟩ (aL _) _) ⟨w.heap.size,2,aC⟩ (aL _) _)).1 j)
 ·have am:(((xs.length:Int)+1)==2)=false:=by rw[beq_eq_false_iff_ne];omega
  have F:=FU (h.V b0) 2;have S:=FN (done:=bs.map BAt.I) (w:=x) H;have d:=Aa z0 0;have f:=Aa z0 1;have i:=Aa z0 2;have A:=Ac z0 0;have B:=Ac z0 1;have C:=Ac z0 2;simp only[aG,aE,aI]at d f i;have n:=fun W (t:Below w.heap.size w W)=>(show Ic (bs.map BAt.I) m x xs w (aJ (aO #[aU #[aA ⟨#[]⟩,aA ⟨#[]⟩,aB aC 0 0],Ja m 2])) W from⟨t,.inl (by rw[S];exact⟨by simp,rfl⟩)⟩)
  have u:=Ab n;have z:=Ab b0;clear n h o k b0 z0 S l;generalize bs.length=ab at *;generalize xs.length=an at *;go_enter func187,ntmps187;go_wp2_with (go_at_call 232;refine F.mono ?_;rintro e ae ⟨rfl,rfl⟩)
  exact aQ (v:=aO #[aU #[aA ⟨#[]⟩,aA ⟨#[]⟩,aB aC 0 0],Ja m 2]) (by simp[aZ,results187,go_sem]) rfl (u.out _ z.out)
variable {kind name:ByteArray}{D T:List BAt}
def headAt(bs:List PBlock)(kind name:ByteArray):Int:=match bs.findIdx? (AB kind name) with
 | none=>-1
 | some j=>(j:Int)
def Hl(bs:List BAt)(kind name:ByteArray)(e:bZ):Prop:=e=aJ (.int .i64 (headAt (bs.map BAt.I) kind name))
theorem Xs(h:(bs.map BAt.I).find? (AB kind name)=aC):Hl bs kind name (aJ (.int .i64 (-1))):=by
 have:(bs.map BAt.I).findIdx? (AB kind name)=aC:=by
  rw[bA];intro x a;have:=bQ.1 h x a;simpa using this
 unfold Hl headAt;rw[this]
theorem Zk{x:BAt}(h:Ck (D.map BAt.I++x.I::T.map BAt.I) kind name (D.map BAt.I).length)(a:AB kind name x.I=true):Hl (D++x::T) kind name (aJ (.int .i64 (D.length:Int))):=by
 have b:(D.map BAt.I).findIdx? (AB kind name)=aC:=by
  rw[bA];intro y c;unfold Ck at h;rw[List.take_append_of_le_length (aL _),bF]at h;exact h y c
 have:((D++x::T).map BAt.I).findIdx? (AB kind name)=aF D.length:=by
  rw[aY,cB,List.findIdx?_append,b,List.findIdx?_cons,if_pos a];simp
 unfold Hl headAt;rw[this]
theorem UT{bs:List PBlock}:(0<=headAt bs kind name)↔bs.any (fun o=>o.aa.toList==kind.toList&&o.name.toList==name.toList)=true:=by
 unfold headAt;cases h:bs.findIdx? (AB kind name) with
 | none =>
  have h1:=bA.1 h;constructor
  ·intro a;simp at a
  ·intro a;obtain⟨y,c,b⟩:=bW.1 a;have:=h1 y c;rw[show AB kind name y=(y.aa.toList==kind.toList&&y.name.toList==name.toList) from rfl,b]at this;cases this
 | some j =>
  constructor
  ·intro _;obtain⟨d,b,_⟩:=bD.1 h;exact bW.2 ⟨_,cT d,b⟩
  ·intro _;simp
theorem Kl(kind name:ByteArray)(h:Au w v bs)(u:bs.length<=1048576):Calls prog 52 #[aU #[v],aA kind,aA name] w fun e w'=>Hl bs kind name e/\Below w.heap.size w w':=by
 obtain⟨ao,p,rfl⟩:=h.1.ad;have k:=(aM w.heap.size w).alloc (aL _) (aH #[aB ao bs.length p] 25);have k0:=AH (w:=w) (cs:=#[aB ao bs.length p]) (T:=25) 0;simp only[aG,aE]at k0;have h1:=h.V k;clear h;generalize q:bs.length=n at *;have l:=Ab q;clear q;go_enter func52,ntmps52;go_wp2;go_loop [7] (fun i=>∃j:Nat,j<=n/\i=.int .i64 (j:Int)/\Ck (bs.map BAt.I) kind name j) (fun i=>n-(intOf i).toNat)
 case atStart=>exact⟨0,by omega,rfl,Ck.zero _ _ _⟩
 case round =>
  obtain⟨j,y,rfl,f⟩:=hrel;by_cases z:j<n
  ·obtain⟨D,x,T,rfl,c⟩:=AC bs j (by have:=l.out;omega);obtain⟨g,off,rfl,s,c2,c3⟩:=h1.1.block;have m:Ck (D.map BAt.I++x.I::T.map BAt.I) kind name (D.map BAt.I).length:=by rw[aP,c];simpa using f
   have d:=Ab (show AB kind name x.I=true->Hl (D++x::T) kind name (aJ (.int .i64 (j:Int))) from fun o=>by rw[<-c];exact Zk m o);have b:=Ab (show AB kind name x.I=false->Ck ((D++x::T).map BAt.I) kind name (j+1) from fun o=>by have:=m.succ o;rw[aP,c]at this;simpa using this);rw[c]at s c2 c3;have hd:AB kind name x.I=((x.aa.toList==kind.toList)&&(x.name.toList==name.toList)):=rfl;rw[hd]at d b;have A:(0:Int)<=(j:Int):=by omega
   have B:(j:Int)<(n:Int):=by omega
   clear h1 f m hd c l;generalize x.aa=xk at *;generalize x.name=t at *;cases h1:(xk.toList==kind.toList)
   ·have a:=Ab (b.out (by rw[h1];rfl));clear d b;go_wp2;go_round
    case rel=>exact⟨j+1,by omega,by go_num,a.out⟩
    case measure=>simp[intOf];omega
   ·cases r:(t.toList==name.toList)
    ·have a:=Ab (b.out (by rw[h1,r];rfl));clear d b;go_wp2;go_round
     case rel=>exact⟨j+1,by omega,by go_num,a.out⟩
     case measure=>simp[intOf];omega
    ·have a:=Ab (d.out (by rw[h1,r];rfl));clear d b;go_wp2;go_ret;exact⟨a.out,k⟩
  ·obtain rfl:j=n:=by omega
   have a:=Ab (show Hl bs kind name (aJ (.int .i64 (-1))) from Xs (Ck.none (by rw[aP,l.out];exact f)));clear h1 f;go_wp2;go_ret;exact⟨a.out,k⟩
variable {B:Nat}{w2 w3 w':World}{vk v2 v3:Value}{A:List PBlock}
theorem UU{cs:List Bl}(h:∀x∈cs,∃a n c,x.v=aB a n c):∀u∈cs.flatMap Bl.cells,u.oneCell'=true:=by
 intro u b;obtain⟨x,d,b⟩:=List.mem_flatMap.1 b;obtain⟨a,n,c,e⟩:=h x d;unfold Bl.cells at b;rw[e]at b;simp at b;rcases b with rfl|rfl|rfl|rfl|rfl <;> rfl
theorem PY{wc:World}{done new:List Bl}(e:AV B wc vk done)(a:B<=wc.heap.size)(o2:AV wc.heap.size w2 v2 new)(b:Below wc.heap.size wc w2)
  (f:w3.ownsRow B 93 5 v3 (done.length+new.length) (done.flatMap Bl.cells++new.flatMap Bl.cells)) (c:w2.grownBy w3 vk.ownBlock) (g:v3.ownBlock=vk.ownBlock\/v3.ownBlock=aF w2.heap.size) :
  AV B w3 v3 (done++new)/\Below B wc w3:=by
 have h:Ay B w2 (CG v2 new++CG vk done):=Ay.join e o2 b a;have d:Ay B w2 (⟨vk,93,5,done.length,done.flatMap Bl.cells⟩::(done.flatMap Bl.rows++CG v2 new)):=h.perm (by
  unfold CG;exact List.perm_append_comm)
 have i:=d.grow (r':=⟨v3,93,5,done.length+new.length,done.flatMap Bl.cells++new.flatMap Bl.cells⟩) f c g;have j:Ay B w3 (⟨v2,93,5,new.length,new.flatMap Bl.cells⟩::⟨v3,93,5,done.length+new.length,done.flatMap Bl.cells++new.flatMap Bl.cells⟩::(done.flatMap Bl.rows++new.flatMap Bl.rows)):=i.perm (by
  unfold CG;exact(List.perm_middle.cons _).trans (List.Perm.swap _ _ _))
 refine⟨?_,?_⟩
 ·unfold AV CG;rw[bN,bN,cO];exact j.tail
 ·exact(b.mono a).grown c (bI a b.size) (fun k l=>(Ay.lt d (cM ..) l).1)
theorem Km(B:Nat)(w:World):A4 B w (aB aC 0 0) []:=⟨fun r a=>by rw[bC.1 a];exact World.ownsRow_nil _ _ 115 2,by simp[EF]⟩
theorem MQ{bs:List PBlock}{kind name:ByteArray}:headAt bs kind name<0↔bs.find? (AB kind name)=aC:=by
 unfold headAt;cases h:bs.findIdx? (AB kind name) with
 | none =>
  refine⟨fun _=>?_,fun _=>by decide⟩;rw[bQ];intro x b;have:=bA.1 h x b;simp[this]
 | some j =>
  refine⟨fun a=>absurd a (by simp),fun a=>?_⟩;obtain⟨c,d,_⟩:=bD.1 h;exact absurd d (bQ.1 a _ (cT c))
theorem SS{bs:List PBlock}{kind name:ByteArray}(h:¬headAt bs kind name<0):∃j:Nat,∃a:j<bs.length,headAt bs kind name=(j:Int)/\bs.find? (AB kind name)=aF bs[j]:=by
 unfold headAt at h⊢;cases b:bs.findIdx? (AB kind name) with
 | none=>rw[b]at h;exact absurd (by decide) h
 | some j =>
  obtain⟨a,h1,c⟩:=bD.1 b;refine⟨j,a,rfl,?_⟩;rw[List.find?_eq_some_iff_getElem];exact⟨h1,j,a,rfl,fun k d=>by have:=c k d;simpa using this⟩
theorem MR{B:List PBlock}{D T:List PBlock}{x:PBlock}(e:A=D++x::T):goneS (A.take (D.length+1)) B=goneS (A.take D.length) B++(if (B.find? (AB x.aa x.name)).isNone=true then [DT x] else []):=by
 subst e;rw[By,Bk];unfold goneS;rw[List.filter_append,aY];congr 1;by_cases h:(B.find? (AB x.aa x.name)).isNone=true
 ·rw[if_pos h];simp[h]
 ·rw[if_neg h];simp[h]
theorem Abt{row:Option Nat}(h:w.drew.grownBy w' row):w.grownBy w' row:=⟨h.os,h.tape,h.output,h.size,h.block⟩
variable {va vb:Value}{az:List BAt}
def D9(P:List PChange)(w:World)(e:bZ)(w':World):Prop:=∃v' a,e=aJ v'/\a.map Bl.I=P/\(∀c∈a,Aj c.ls)/\a.length<=14000000/\AV w.heap.size w' v' a/\Below w.heap.size w w'
def Abu(B:Nat)(w2:World)(A Q:List PBlock)(a:Nat)(b i:Value)(wr:World):Prop:=∃(k:Nat) (cs:List Bl),i=.int .i64 (k:Int)/\k<=a/\cs.map Bl.I=goneS (A.take k) Q/\(∀c∈cs,Aj c.ls)/\cs.length<=k/\AV B wr b cs/\Below B w2 wr
def Abv(B:Nat)(w2:World)(A Q:List PBlock)(a b:Nat)(d i:Value)(wr:World):Prop:=∃(k:Nat) (cs:List Bl),i=.int .i64 (k:Int)/\k<=b/\cs.map Bl.I=goneS A Q++(Q.take k).flatMap (CC A)/\(∀c∈cs,Aj c.ls)/\cs.length<=a+12*k/\AV B wr d cs/\Below B w2 wr
theorem PZ(cp:Au w va az)(cq:Au w vb bs)(sa:A3 az)(cr:A3 bs):Calls prog 36 #[aU #[va],aU #[vb]] w fun e w'=>D9 (diffS (az.map BAt.I) (bs.map BAt.I)) w e w':=by
 obtain⟨Z,s,rfl⟩:=cp.1.ad;obtain⟨aa,ab,rfl⟩:=cq.1.ad;have bc:Below w.heap.size w ((w.alloc (aH #[aB Z az.length s] 25)).alloc (aH #[aB aa bs.length ab] 25)):=((aM w.heap.size w).alloc (aL _) _).alloc (by simp) _;have G:((w.alloc (aH #[aB Z az.length s] 25)).alloc (aH #[aB aa bs.length ab] 25)).heap.size=w.heap.size+2:=by simp
 have ee:((w.alloc (aH #[aB Z az.length s] 25)).alloc (aH #[aB aa bs.length ab] 25)).heap[w.heap.size]?=aF (aH #[aB Z az.length s] 25 (0,0)):=by
  have bd:=(aM (w.alloc (aH #[aB Z az.length s] 25)).heap.size (w.alloc (aH #[aB Z az.length s] 25))).alloc (aL _) (aH #[aB aa bs.length ab] 25);rw[bd.block w.heap.size (by simp)];exact Ai w _
 have ef:((w.alloc (aH #[aB Z az.length s] 25)).alloc (aH #[aB aa bs.length ab] 25)).heap[w.heap.size+1]?=aF (aH #[aB aa bs.length ab] 25 (0,0)):=by
  have:=Ai (w.alloc (aH #[aB Z az.length s] 25)) (aH #[aB aa bs.length ab] 25);rw[aS]at this;exact this
 have a2:=Ab (cp.V bc);have be:=Ab (cq.V bc);have dk:=Ab sa;have dl:=Ab cr;have eg:az.length<=1048576:=sa.1;have eh:bs.length<=1048576:=cr.1;generalize dm:(w.alloc (aH #[aB Z az.length s] 25)).alloc (aH #[aB aa bs.length ab] 25)=w2 at *;have ei:=Ab dm;have ao:=Aa ee 0;have bf:=Aa ef 0;simp only[aG,aE]at ao bf;have ct:=cK (base:=w.heap.size+2) (e:=93) (size:=5) w2 #[] 0 (by omega) (by decide) rfl;rw[G]at ct;have ap:=(aM (w.heap.size+2) w2).alloc (by omega) (aH #[] 93);have bx:AV (w.heap.size+2) (w2.alloc (aH #[] 93)) (aB (aF ⟨w.heap.size+2,0,aC⟩) 0 0) []:=⟨fun r ej=>by rw[bC.1 ej];exact ct,by simp[CG]⟩;have cu:(w2.alloc (aH #[] 93)).heap.size=w.heap.size+3:=by rw[aS,G]
 have cv:=(ap.cell (p:=⟨w.heap.size,0,aC⟩) (by simp)).trans ao;have ek:=(ap.cell (p:=⟨w.heap.size+1,0,aC⟩) (by simp)).trans bf;have el:=a2.out.V (by rw[G];exact ap);have em:=be.out.V (by rw[G];exact ap);have a3:=fun W (h:Below (w.heap.size+2) w2 W)=>D6 (a2.out.V (by rw[G];exact h)) dk.out
 have a4:=fun W (h:Below (w.heap.size+2) w2 W)=>D6 (be.out.V (by rw[G];exact h)) dl.out
 clear cp cq sa cr dm ct el em;obtain⟨n,bz⟩:∃n,az.map BAt.I=n:=⟨_,rfl⟩;obtain⟨o,b0⟩:∃o,bs.map BAt.I=o:=⟨_,rfl⟩;rw[bz]at a3;rw[b0]at a4;rw[bz,b0];have bg:=Ab bz;have cw:=Ab b0;have dn:=Ab (show ∀bd cx,Bw n=bd->Bw o=cx->diffS n o=if bd=true/\cx=true then goneS n o++o.flatMap (CC n) else [] from fun bd cx h1 en=>by rw[<-h1,<-en];rfl);generalize dp:Bw n=dq at a3;generalize dr:Bw o=ds at a4;have cy:=Ab (dn.out dq ds dp dr);clear bz b0 dn dp dr;generalize b1:az.length=q at *;have b2:=Ab b1;clear b1;generalize dt:bs.length=ac at *;have cz:=Ab dt;clear dt;go_enter func36,ntmps36;go_upto_region 2 with fail
 rw[ei.out];go_wp2_with (go_at_call 14;refine(a3 _ ap).mono ?_)
 first|rintro e c1 rfl b3|rintro e c1 ⟨rfl,b3⟩
 have aq:Below (w.heap.size+2) w2 c1:=ap.trans (b3.mono (by omega));have a5:=(aq.cell (p:=⟨w.heap.size,0,aC⟩) (by simp)).trans ao;have bh:=(aq.cell (p:=⟨w.heap.size+1,0,aC⟩) (by simp)).trans bf;have bi:=bx.V b3;cases dq
 ·have bj:=Ab (show D9 (diffS n o) w (aJ (aB (aF ⟨w.heap.size+2,0,aC⟩) 0 0)) c1 from⟨_,[],rfl,by rw[cy.out];simp,by simp,by simp,Ay.mono bi (by omega),bc.trans (aq.mono (by omega))⟩);clear bi bx a3 a4;go_wp2;go_ret;exact bj.out
 ·go_wp2_with (go_at_call 14;refine(a4 _ aq).mono ?_)
  first|rintro e b4 rfl b5|rintro e b4 ⟨rfl,b5⟩
  have c3:Below (w.heap.size+2) w2 b4:=aq.trans (b5.mono (by have:=aq.size;omega));have b6:=bi.V b5;cases ds
  ·have bj:=Ab (show D9 (diffS n o) w (aJ (aB (aF ⟨w.heap.size+2,0,aC⟩) 0 0)) b4 from⟨_,[],rfl,by rw[cy.out];simp,by simp,by simp,Ay.mono b6 (by omega),bc.trans (c3.mono (by omega))⟩);clear bi b6 bx a3 a4;go_wp2;go_ret;exact bj.out
  ·have du:=Ab (show Abu (w.heap.size+2) w2 n o q (aB (aF ⟨w.heap.size+2,0,aC⟩) 0 0) (.int .i64 0) b4 from⟨0,[],rfl,by omega,by simp[goneS],by simp,by simp,b6,c3⟩);clear bi b6 bx a3 a4 c3 aq b3 b5 a5 bh cv ek ap cu;go_wp2;go_loopw [5,6] (fun c4 i wr=>Abu (w.heap.size+2) w2 n o q c4 i wr) (fun _ i _=>q-(intOf i).toNat)
   case atStart=>exact du.out
   case round =>
    clear du;obtain⟨k,cs,rfl,eo,O,ad,dv,M,A⟩:=hrel;obtain⟨ar,au,rfl,_⟩:=Al (show wr.ownsRow (w.heap.size+2) 93 5 _ cs.length (cs.flatMap Bl.cells) from Ay.head M);have c5:=A.size;rw[G]at c5;have bk:Below w2.heap.size w2 wr:=by rw[G];exact A
    have a6:=(A.cell (p:=⟨w.heap.size,0,aC⟩) (by simp)).trans ao;have b7:=(A.cell (p:=⟨w.heap.size+1,0,aC⟩) (by simp)).trans bf;by_cases ep:k<q
    ·obtain⟨D,x,T,af,av⟩:=AC az k (by have:=b2.out;omega);have E:=a2.out.1;rw[af]at E;obtain⟨g,off,rfl,R,ag,_⟩:=E.block;rw[av]at R ag;have U:=aD w2 _ R;simp only[G]at U;have c0:=(A.cell (p:=⟨g,off+k*3,aC⟩) U).trans R;have b8:=(A.cell (p:=⟨g,off+k*3+1,aC⟩) U).trans ag;have eq:(0:Int)<=(k:Int):=by omega
     have er:(k:Int)<(q:Int):=by omega
     have a7:=Ab (show goneS (n.take (k+1)) o=cs.map Bl.I++(if (o.find? (AB x.aa x.name)).isNone=true then [DT x.I] else []) from by
      have e:n=D.map BAt.I++x.I::T.map BAt.I:=by rw[<-bg.out,af];simp
      have:=MR (B:=o) e;rw[aP,av]at this;rw[this,O];rfl)
     have aw:∀p:Gr wr,Calls prog 52 #[aU #[aB aa ac ab],aA x.aa,aA x.name] p.u fun e w'=>e=aJ (.int .i64 (headAt o x.aa x.name))/\Below p.u.heap.size p.u w':=fun p=>by
      have:=Kl x.aa x.name ((be.out.V bk).V p.h) (by rw[cz.out];exact eh);rw[<-cw.out];exact this
     have es:=Ab (show DT x.I=⟨1,x.aa,x.name,⟨#[]⟩,[]⟩ from rfl);have et:=fun p:Gr wr=>Aq a6 p
     have u1:=fun p:Gr wr=>Aq b7 p
     have u2:=fun p:Gr wr=>Aq c0 p
     have u3:=fun p:Gr wr=>Aq b8 p
     have b9:=Ab (@MQ o x.aa x.name);have a8:=Ab M;have bl:=Ab ad;clear M ad O E af av;generalize x.aa=xk at *;generalize x.name=t at *;generalize c6:headAt o xk t=c7 at *;clear c6;go_upto_region 7 with fail
     refine A5 (by kernel_rfl) (by kernel_rfl) ?_;iterate 13 quiet_step (fail)
     quiet_step ((go_at_call 52;refine CD (aw _)))
     quiet_step (fail)
     refine bH ?_;rintro m ⟨⟨_,H⟩,rfl⟩;have dw:=H.size;have V:=A.trans (H.mono (by omega));clear et u1 u2 u3 aw a6 b7 c0 b8;by_cases ca:c7<0
     ·have cb:=Ab (show ∀W,Below (w.heap.size+2) w2 W->W.cell? ⟨w.heap.size,0,aC⟩=aF (aB (aF ⟨g,off,aC⟩) q s)/\W.cell? ⟨g,off+k*3,aC⟩=aF (aA xk)/\W.cell? ⟨g,off+k*3+1,aC⟩=aF (aA t) from fun W F=>⟨(F.cell (p:=⟨w.heap.size,0,aC⟩) (by simp)).trans ao,(F.cell (p:=⟨g,off+k*3,aC⟩) U).trans R,(F.cell (p:=⟨g,off+k*3+1,aC⟩) U).trans ag⟩);have N:Below (w.heap.size+2) w2 m.drew:=V.drew;have bm:=fun p:{ W:World // W.cell? ⟨w.heap.size,0,aC⟩=aF (aB (aF ⟨g,off,aC⟩) q s)/\W.cell? ⟨g,off+k*3,aC⟩=aF (aA xk)/\W.cell? ⟨g,off+k*3+1,aC⟩=aF (aA t) }=>p.2.1
      have bn:=fun p:{ W:World // W.cell? ⟨w.heap.size,0,aC⟩=aF (aB (aF ⟨g,off,aC⟩) q s)/\W.cell? ⟨g,off+k*3,aC⟩=aF (aA xk)/\W.cell? ⟨g,off+k*3+1,aC⟩=aF (aA t) }=>p.2.2.1
      have bo:=fun p:{ W:World // W.cell? ⟨w.heap.size,0,aC⟩=aF (aB (aF ⟨g,off,aC⟩) q s)/\W.cell? ⟨g,off+k*3,aC⟩=aF (aA xk)/\W.cell? ⟨g,off+k*3+1,aC⟩=aF (aA t) }=>p.2.2.2
      letI:Inhabited { W:World // W.cell? ⟨w.heap.size,0,aC⟩=aF (aB (aF ⟨g,off,aC⟩) q s)/\W.cell? ⟨g,off+k*3,aC⟩=aF (aA xk)/\W.cell? ⟨g,off+k*3+1,aC⟩=aF (aA t) }:=⟨⟨m.drew,cb.out _ N⟩⟩;obtain⟨i0,cc,cd,ce,cf⟩:=cF Gu;go_upto_region 8 with fail
      refine AK (S:=fun W=>W.cell? ⟨w.heap.size,0,aC⟩=aF (aB (aF ⟨g,off,aC⟩) q s)/\W.cell? ⟨g,off+k*3,aC⟩=aF (aA xk)/\W.cell? ⟨g,off+k*3+1,aC⟩=aF (aA t)) 16 17 (by kernel_rfl) rfl ?_;refine A9 [true,true,true,true,true,true,true,true,true,true,true,true,true,true,false,false,false] 3 rfl (by kernel_rfl) (cb.out _ N) ?_;simp only[AZ,Bc,AX];iterate 14 (refine A2 (fun K l=>?_);go_simp;refine l _ ?_;clear l K)
      refine A8 ?_;clear bm bn bo;refine Af (f:=2) (rs:=[14]) (by kernel_rfl) (by simp) ?_;refine Ag.cons rfl (by decide) (fun K l=>?_) Ag.nil;go_simp;have a9:Below m.heap.size m (m.alloc (aH #[.int .i64 1,aA xk,aA t,aA ⟨#[]⟩,aB aC 0 0] 93)).drew:=((aM m.heap.size m).alloc (aL _) _).drew;have ah:(m.alloc (aH #[.int .i64 1,aA xk,aA t,aA ⟨#[]⟩,aB aC 0 0] 93)).drew.ownsRow (w.heap.size+2) 93 5 (aB ar cs.length au) cs.length (cs.flatMap Bl.cells):=(a8.out.V H).row.alloc _;have E:Am (m.alloc (aH #[.int .i64 1,aA xk,aA t,aA ⟨#[]⟩,aB aC 0 0] 93)).drew _ 1 5 _:=Bn m #[.int .i64 1,aA xk,aA t,aA ⟨#[]⟩,aB aC 0 0] 93 5 rfl;have ai:∀u∈(#[.int .i64 1,aA xk,aA t,aA ⟨#[]⟩,aB aC 0 0]:Array Value).toList,u.oneCell'=true:=by intro u F;simp at F;rcases F with rfl|rfl|rfl|rfl|rfl <;> rfl
      refine l.out _ _ (cb.out _ (V.trans (a9.mono (by omega)))) ?_;clear l K;refine Af (f:=1) (rs:=[15]) (by kernel_rfl) (by simp) ?_;refine Ag.cons rfl (by decide) (fun K l=>?_) Ag.nil;refine A0 rfl _ _ 34 rfl (w.heap.size+2) 93 i0 _ 5 80 underlying34 cc cd ce cf rfl (by decide) _ cs.length _ rfl ah _ 1 _ rfl E ai (by unfold cW;omega) (by omega) (by show _<=(m.alloc _).heap.size;rw[aS];omega) ?_;intro bp bq P aj I ak;have Q:=Ju (x:=⟨1,xk,t,⟨#[]⟩,aB aC 0 0,[]⟩) (a8.out.V H) (by omega) (Km m.heap.size m) (aM _ _) aj (Abt I) ak;have ax:=V.trans (Q.2.mono (by omega));refine l.out _ _ (cb.out _ ax) ?_;clear l K;have ay:=Ab (show Abu (w.heap.size+2) w2 n o q (aB bp (cs.length+1) bq) (.int .i64 ((k:Int)+1)) P from⟨k+1,cs++[⟨1,xk,t,⟨#[]⟩,aB aC 0 0,[]⟩],by rw[bM];rfl,by omega,by
       rw[a7.out,if_pos (bY.2 (b9.out.1 ca)),aY,es.out];rfl,fun c C=>by
       rcases bX.1 C with C|C
       ·exact bl.out c C
       ·rw[bC.1 C];exact⟨by simp,fun dx c8=>by cases c8⟩,by simp;omega,Q.1,ax⟩)
      clear ah E ai aj I ak Q a9;refine Bi (by kernel_rfl) rfl (by kernel_rfl) ?_;intro K l;go_simp;refine l.out _ _ (bG ?_);clear l K;go_wp2;go_roundw;case rel=>exact ay.out
      case measure=>simp[intOf];omega
     ·have ay:=Ab (show Abu (w.heap.size+2) w2 n o q (aB ar cs.length au) (.int .i64 ((k:Int)+1)) m from⟨k+1,cs,by rw[bM];rfl,by omega,by
       rw[a7.out,if_neg (fun h=>ca (b9.out.2 (bY.1 h))),List.append_nil],bl.out,by omega,a8.out.V H,V⟩)
      go_wp2;go_roundw;case rel=>exact ay.out
      case measure=>simp[intOf];omega
    ·obtain rfl:k=q:=by omega
     have dy:n.take k=n:=by rw[<-bg.out,<-b2.out,<-aP (f:=BAt.I),bF]
     rw[dy]at O;have dz:=Ab (show Abv (w.heap.size+2) w2 n o k ac (aB ar cs.length au) (.int .i64 0) wr from⟨0,cs,rfl,by omega,by rw[O];simp,ad,by omega,M,A⟩);clear M ad O dy A bk dv;generalize cs.length=fd at *;generalize b1:k=q at *;clear b1;obtain⟨d0,eu⟩:∃d0,d0=wr:=⟨_,rfl⟩;subst eu;go_wp2;go_loopw [5,7] (fun c4 i wr=>Abv (w.heap.size+2) w2 n o q ac c4 i wr) (fun _ i _=>ac-(intOf i).toNat)
     case atStart=>exact dz.out
     case round =>
      clear dz;obtain⟨k,cs,rfl,eo,O,ad,dv,M,A⟩:=hrel;obtain⟨ar,au,rfl,_⟩:=Al (show wr.ownsRow (w.heap.size+2) 93 5 _ cs.length (cs.flatMap Bl.cells) from Ay.head M);have c5:=A.size;rw[G]at c5;have bk:Below w2.heap.size w2 wr:=by rw[G];exact A
      have a6:=(A.cell (p:=⟨w.heap.size,0,aC⟩) (by simp)).trans ao;have b7:=(A.cell (p:=⟨w.heap.size+1,0,aC⟩) (by simp)).trans bf;by_cases ep:k<ac
      ·obtain⟨D,y,T,af,av⟩:=AC bs k (by have:=cz.out;omega);have E:=be.out.1;rw[af]at E;obtain⟨g,off,rfl,R,ag,cg⟩:=E.block;rw[av]at R ag cg;have c9:y∈bs:=by rw[af];simp
       have br:=(be.out.V bk).2 y c9;have da:=(dl.out.2 y c9).2;have a7:=Ab (show (o.take (k+1)).flatMap (CC n)=(o.take k).flatMap (CC n)++CC n y.I from H8 _ (show o=D.map BAt.I++y.I::T.map BAt.I by rw[<-cw.out,af];simp) (by rw[aP];exact av));obtain⟨yk,yn,yv,L⟩:=y;simp only at R ag cg da;have br:Ap wr yv L:=br;obtain⟨v,yc,rfl⟩:=br.1.ad;have d1:=Ab (show (⟨yk,yn,aB v L.length yc,L⟩:BAt).I=⟨yk,yn,L.map LAt.I⟩ from rfl);rw[d1.out]at a7;have U:=aD w2 _ R;simp only[G]at U;have c0:=(A.cell (p:=⟨g,off+k*3,aC⟩) U).trans R;have b8:=(A.cell (p:=⟨g,off+k*3+1,aC⟩) U).trans ag;have c2:=(A.cell (p:=⟨g,off+k*3+2,aC⟩) U).trans cg;have eq:(0:Int)<=(k:Int):=by omega
       have er:(k:Int)<(ac:Int):=by omega
       generalize d2:L.length=z at *;have fe:=Ab d2;clear d2;have ba:=(aM wr.heap.size wr).alloc (aL _) (aH #[aA yk,aA yn,aB v z yc] 46);have ch:=Ai wr (aH #[aA yk,aA yn,aB v z yc] 46);have a5:=Aa ch 0;have bh:=Aa ch 1;have db:=Aa ch 2;simp only[aG,aE,aI]at a5 bh db;have cv:=(ba.cell (aD wr _ a6)).trans a6;have aw:=Kl yk yn ((a2.out.V bk).V ba) (by rw[b2.out];exact eg);unfold Hl at aw;rw[bg.out]at aw;have b9:=Ab (@MQ n yk yn);have ev:=Ab (@SS n yk yn);have bb:=Ab (show (bB ar cs.length au).ownBlock≠aF wr.heap.size from fun e=>Nat.lt_irrefl _ (Ay.lt M (cM ..) e).2);have a8:=Ab (M.V ba);have bl:=Ab ad;have d3:=Ab O;have dc:=Ab (br.V ba);have ci:=Ab da;have ew:=A.trans (ba.mono (by omega));clear M ad O E af av c9 br da R ag cg d1;generalize c6:headAt n yk yn=c7 at *;clear c6;generalize d4:wr.alloc (aH #[aA yk,aA yn,aB v z yc] 46)=bt at *;have ex:=Ab d4;clear d4 ch;have ff:wr.heap.size<bt.heap.size:=aD bt _ a5;go_upto_region 13 with fail
       rw[ex.out];go_wp2_with (go_at_call 52;refine aw.mono ?_)
       first|rintro e m rfl H|rintro e m ⟨rfl,H⟩
       have dw:=H.size;have V:=ew.trans (H.mono (by omega));have cj:=Ab (a8.out.V H);have ae:=Ab (show ∀W,Below m.heap.size m W->W.cell? ⟨wr.heap.size,0,aC⟩=aF (aA yk)/\W.cell? ⟨wr.heap.size,1,aC⟩=aF (aA yn)/\W.cell? ⟨wr.heap.size,2,aC⟩=aF (aB v z yc) from fun W F=>by
        have e:=H.trans (F.mono dw);exact⟨(e.cell (aD bt _ a5)).trans a5,(e.cell (aD bt _ bh)).trans bh,(e.cell (aD bt _ db)).trans db⟩)
       clear aw c0 b8 c2 a6 b7 cv a8 ba;obtain⟨i0,cc,cd,ce,cf⟩:=cF Gu;by_cases ca:c7<0
       ·have ey:=Fx (dc.out.V H) ci.out;have N:Below m.heap.size m m.drew:=(aM _ _).drew;have ez:=Fx ((dc.out.V H).V N) ci.out;clear ey;have bm:=fun p:{ W:World // W.cell? ⟨wr.heap.size,0,aC⟩=aF (aA yk)/\W.cell? ⟨wr.heap.size,1,aC⟩=aF (aA yn)/\W.cell? ⟨wr.heap.size,2,aC⟩=aF (aB v z yc) }=>p.2.1
        have bn:=fun p:{ W:World // W.cell? ⟨wr.heap.size,0,aC⟩=aF (aA yk)/\W.cell? ⟨wr.heap.size,1,aC⟩=aF (aA yn)/\W.cell? ⟨wr.heap.size,2,aC⟩=aF (aB v z yc) }=>p.2.2.1
        have bo:=fun p:{ W:World // W.cell? ⟨wr.heap.size,0,aC⟩=aF (aA yk)/\W.cell? ⟨wr.heap.size,1,aC⟩=aF (aA yn)/\W.cell? ⟨wr.heap.size,2,aC⟩=aF (aB v z yc) }=>p.2.2.2
        letI:Inhabited { W:World // W.cell? ⟨wr.heap.size,0,aC⟩=aF (aA yk)/\W.cell? ⟨wr.heap.size,1,aC⟩=aF (aA yn)/\W.cell? ⟨wr.heap.size,2,aC⟩=aF (aB v z yc) }:=⟨⟨m.drew,ae.out _ N⟩⟩;go_upto_region 15 with fail
        refine AK (S:=fun W=>W.cell? ⟨wr.heap.size,0,aC⟩=aF (aA yk)/\W.cell? ⟨wr.heap.size,1,aC⟩=aF (aA yn)/\W.cell? ⟨wr.heap.size,2,aC⟩=aF (aB v z yc)) 11 12 (by kernel_rfl) rfl ?_;refine A9 [true,true,true,true,true,true,true,false,false,false,false,false] 5 rfl (by kernel_rfl) (ae.out _ N) ?_;simp only[AZ,Bc,AX];iterate 7 (refine A2 (fun K l=>?_);go_simp;refine l _ ?_;clear l K)
        refine A8 ?_;clear bm bn bo;refine Af (f:=4) (rs:=[7]) (by kernel_rfl) (by simp) ?_;refine Ag.cons rfl (by decide) (fun K l=>?_) Ag.nil;go_simp;go_wp2_with (go_at_call 97;refine ez.mono ?_;rintro e al ⟨e0,X,rfl,bu,o7,dd⟩;obtain⟨am,an,rfl,_⟩:=Al o7.row)
        have J:Below m.heap.size m al:=N.trans dd;refine l.out _ _ (ae.out _ J) ?_;clear l K;refine A9 [false,false,false,false,false,false,false,false,true,false,false,false] 3 rfl (by kernel_rfl) (ae.out _ J) ?_;simp only[AZ,Bc,AX];iterate 1 (refine A2 (fun K l=>?_);go_simp;refine l _ ?_;clear l K)
        refine A8 ?_;refine Af (f:=2) (rs:=[9]) (by kernel_rfl) (by simp) ?_;refine Ag.cons rfl (by decide) (fun K l=>?_) Ag.nil;go_simp;have a9:Below m.heap.size m (al.alloc (aH #[.int .i64 2,aA yk,aA yn,aA ⟨#[]⟩,aB am X.length an] 93)):=J.alloc J.size _;have ah:(al.alloc (aH #[.int .i64 2,aA yk,aA yn,aA ⟨#[]⟩,aB am X.length an] 93)).ownsRow (w.heap.size+2) 93 5 (aB ar cs.length au) cs.length (cs.flatMap Bl.cells):=(cj.out.V J).row.alloc _;have E:=Bn al #[.int .i64 2,aA yk,aA yn,aA ⟨#[]⟩,aB am X.length an] 93 5 rfl;have ai:∀u∈(#[.int .i64 2,aA yk,aA yn,aA ⟨#[]⟩,aB am X.length an]:Array Value).toList,u.oneCell'=true:=by intro u F;simp at F;rcases F with rfl|rfl|rfl|rfl|rfl <;> rfl
        refine l.out _ _ (ae.out _ a9) ?_;clear l K;refine Af (f:=1) (rs:=[10]) (by kernel_rfl) (by simp) ?_;refine Ag.cons rfl (by decide) (fun K l=>?_) Ag.nil;have e1:=J.size;refine A0 rfl _ _ 34 rfl (w.heap.size+2) 93 i0 _ 5 80 underlying34 cc cd ce cf rfl (by decide) _ cs.length _ rfl ah _ 1 _ rfl E ai (by unfold cW;omega) (by omega) (by rw[aS];omega) ?_;intro bp bq P aj I ak;have Q:=Ju (x:=⟨2,yk,yn,⟨#[]⟩,aB am X.length an,X⟩) cj.out (by omega) o7 J aj I ak;have ax:=V.trans (Q.2.mono (by omega));have a0:wr.heap.size<(al.alloc (aH #[.int .i64 2,aA yk,aA yn,aA ⟨#[]⟩,aB am X.length an] 93)).heap.size:=by rw[aS];omega
        have a1:=ae.out _ a9;have de:P.cell? ⟨wr.heap.size,0,aC⟩=aF (aA yk)/\P.cell? ⟨wr.heap.size,1,aC⟩=aF (aA yn)/\P.cell? ⟨wr.heap.size,2,aC⟩=aF (aB v z yc):=⟨(I.cell_far ⟨wr.heap.size,0,aC⟩ a0 (cA bb.out)).trans a1.1,(I.cell_far ⟨wr.heap.size,1,aC⟩ a0 (cA bb.out)).trans a1.2.1,(I.cell_far ⟨wr.heap.size,2,aC⟩ a0 (cA bb.out)).trans a1.2.2⟩;refine l.out _ _ de ?_;clear l K;have ay:=Ab (show Abv (w.heap.size+2) w2 n o q ac (aB bp (cs.length+1) bq) (.int .i64 ((k:Int)+1)) P from⟨k+1,cs++[⟨2,yk,yn,⟨#[]⟩,aB am X.length an,X⟩],by rw[bM];rfl,by omega,by
         rw[a7.out,aY,d3.out,cR];congr 2;unfold CC;rw[show n.find? (AB (⟨yk,yn,L.map LAt.I⟩:PBlock).aa (⟨yk,yn,L.map LAt.I⟩:PBlock).name)=aC from b9.out.1 ca];show [(⟨2,yk,yn,⟨#[]⟩,X.map LAt.I⟩:PChange)]=[Mh ⟨yk,yn,L.map LAt.I⟩]
         rw[bu];rfl,fun c C=>by
         rcases bX.1 C with C|C
         ·exact bl.out c C
         ·rw[bC.1 C];exact ci.out.same bu,by simp;omega,Q.1,ax⟩)
        clear ah E ai aj I ak Q a9;refine Bi (by kernel_rfl) rfl (by kernel_rfl) ?_;intro K l;go_simp;refine l.out _ _ (bG ?_);clear l K;go_wp2;go_roundw;case rel=>exact ay.out
        case measure=>simp[intOf];omega
       ·obtain⟨j,ck,rfl,df⟩:=ev.out (by omega);have d5:j<az.length:=by rw[<-bg.out,aP]at ck;exact ck
        obtain⟨fg,x,fh,cl,d6⟩:=AC az j d5;have d7:n[j]'ck=x.I:=by
         have h1:n[j]?=aF x.I:=by rw[<-bg.out,cl,bK,aV (by omega),d6,bS];rfl
         rw[bL ck]at h1;exact cC h1
        rw[d7]at df;have dg:=a2.out.1;rw[cl]at dg;obtain⟨b,d,e2,bv,cm,cn⟩:=dg.block;subst e2;rw[d6]at bv cm cn;have dh:x∈az:=by rw[cl];simp
        have d8:=(dk.out.2 x dh).2;have d9:Below w2.heap.size w2 m:=by rw[G];exact V
        have N:Below m.heap.size m m.drew:=(aM _ _).drew;have di:=((a2.out.V d9).V N).2 x dh;have ea:=S4 (x:=x) (y:=⟨yk,yn,aB v z yc,L⟩) (w:=m.drew) di ((dc.out.V H).V N) d8 ci.out;have e3:=Ab (show CC n ⟨yk,yn,L.map LAt.I⟩=Ip x.I ⟨yk,yn,L.map LAt.I⟩ from by
         unfold CC;rw[show n.find? (AB (⟨yk,yn,L.map LAt.I⟩:PBlock).aa (⟨yk,yn,L.map LAt.I⟩:PBlock).name)=aF x.I from df])
        obtain⟨xk,t,e4,eb⟩:=x;have ec:Ap m.drew e4 eb:=di;obtain⟨xa,xc,rfl⟩:=ec.1.ad;simp only at ea bv cm cn;have co:=aD w2 _ bv;simp only[G]at co;generalize e5:eb.length=Y at *;clear e5;have dj:=Ab (show ∀W,Below (w.heap.size+2) w2 W->(W.cell? ⟨wr.heap.size,0,aC⟩=aF (aA yk)/\W.cell? ⟨wr.heap.size,1,aC⟩=aF (aA yn)/\W.cell? ⟨wr.heap.size,2,aC⟩=aF (aB v z yc))->W.cell? ⟨w.heap.size,0,aC⟩=aF (aB (aF ⟨b,d,aC⟩) q s)/\(W.cell? ⟨b,d+j*3,aC⟩=aF (aA xk)/\W.cell? ⟨b,d+j*3+1,aC⟩=aF (aA t)/\W.cell? ⟨b,d+j*3+2,aC⟩=aF (aB xa Y xc))/\(W.cell? ⟨wr.heap.size,0,aC⟩=aF (aA yk)/\W.cell? ⟨wr.heap.size,1,aC⟩=aF (aA yn)/\W.cell? ⟨wr.heap.size,2,aC⟩=aF (aB v z yc)) from fun W F e6=>⟨(F.cell (p:=⟨w.heap.size,0,aC⟩) (by simp)).trans ao,⟨(F.cell (p:=⟨b,d+j*3,aC⟩) co).trans bv,(F.cell (p:=⟨b,d+j*3+1,aC⟩) co).trans cm,(F.cell (p:=⟨b,d+j*3+2,aC⟩) co).trans cn⟩,e6⟩);clear di ec d8 dh dg cl d7 bv cm cn df d9;have fi:(0:Int)<=(j:Int):=by omega
        have fj:(j:Int)<(q:Int):=by rw[b2.out]at d5;omega
        have ed:=dj.out _ V.drew (ae.out _ N);have bm:=fun p:{ W:World // W.cell? ⟨w.heap.size,0,aC⟩=aF (aB (aF ⟨b,d,aC⟩) q s)/\(W.cell? ⟨b,d+j*3,aC⟩=aF (aA xk)/\W.cell? ⟨b,d+j*3+1,aC⟩=aF (aA t)/\W.cell? ⟨b,d+j*3+2,aC⟩=aF (aB xa Y xc))/\(W.cell? ⟨wr.heap.size,0,aC⟩=aF (aA yk)/\W.cell? ⟨wr.heap.size,1,aC⟩=aF (aA yn)/\W.cell? ⟨wr.heap.size,2,aC⟩=aF (aB v z yc)) }=>p.2.1
        have bn:=fun p:{ W:World // W.cell? ⟨w.heap.size,0,aC⟩=aF (aB (aF ⟨b,d,aC⟩) q s)/\(W.cell? ⟨b,d+j*3,aC⟩=aF (aA xk)/\W.cell? ⟨b,d+j*3+1,aC⟩=aF (aA t)/\W.cell? ⟨b,d+j*3+2,aC⟩=aF (aB xa Y xc))/\(W.cell? ⟨wr.heap.size,0,aC⟩=aF (aA yk)/\W.cell? ⟨wr.heap.size,1,aC⟩=aF (aA yn)/\W.cell? ⟨wr.heap.size,2,aC⟩=aF (aB v z yc)) }=>p.2.2.1.1
        have bo:=fun p:{ W:World // W.cell? ⟨w.heap.size,0,aC⟩=aF (aB (aF ⟨b,d,aC⟩) q s)/\(W.cell? ⟨b,d+j*3,aC⟩=aF (aA xk)/\W.cell? ⟨b,d+j*3+1,aC⟩=aF (aA t)/\W.cell? ⟨b,d+j*3+2,aC⟩=aF (aB xa Y xc))/\(W.cell? ⟨wr.heap.size,0,aC⟩=aF (aA yk)/\W.cell? ⟨wr.heap.size,1,aC⟩=aF (aA yn)/\W.cell? ⟨wr.heap.size,2,aC⟩=aF (aB v z yc)) }=>p.2.2.1.2.1
        have cu:=fun p:{ W:World // W.cell? ⟨w.heap.size,0,aC⟩=aF (aB (aF ⟨b,d,aC⟩) q s)/\(W.cell? ⟨b,d+j*3,aC⟩=aF (aA xk)/\W.cell? ⟨b,d+j*3+1,aC⟩=aF (aA t)/\W.cell? ⟨b,d+j*3+2,aC⟩=aF (aB xa Y xc))/\(W.cell? ⟨wr.heap.size,0,aC⟩=aF (aA yk)/\W.cell? ⟨wr.heap.size,1,aC⟩=aF (aA yn)/\W.cell? ⟨wr.heap.size,2,aC⟩=aF (aB v z yc)) }=>p.2.2.1.2.2
        have e7:=fun p:{ W:World // W.cell? ⟨w.heap.size,0,aC⟩=aF (aB (aF ⟨b,d,aC⟩) q s)/\(W.cell? ⟨b,d+j*3,aC⟩=aF (aA xk)/\W.cell? ⟨b,d+j*3+1,aC⟩=aF (aA t)/\W.cell? ⟨b,d+j*3+2,aC⟩=aF (aB xa Y xc))/\(W.cell? ⟨wr.heap.size,0,aC⟩=aF (aA yk)/\W.cell? ⟨wr.heap.size,1,aC⟩=aF (aA yn)/\W.cell? ⟨wr.heap.size,2,aC⟩=aF (aB v z yc)) }=>p.2.2.2.1
        have e8:=fun p:{ W:World // W.cell? ⟨w.heap.size,0,aC⟩=aF (aB (aF ⟨b,d,aC⟩) q s)/\(W.cell? ⟨b,d+j*3,aC⟩=aF (aA xk)/\W.cell? ⟨b,d+j*3+1,aC⟩=aF (aA t)/\W.cell? ⟨b,d+j*3+2,aC⟩=aF (aB xa Y xc))/\(W.cell? ⟨wr.heap.size,0,aC⟩=aF (aA yk)/\W.cell? ⟨wr.heap.size,1,aC⟩=aF (aA yn)/\W.cell? ⟨wr.heap.size,2,aC⟩=aF (aB v z yc)) }=>p.2.2.2.2.1
        have e9:=fun p:{ W:World // W.cell? ⟨w.heap.size,0,aC⟩=aF (aB (aF ⟨b,d,aC⟩) q s)/\(W.cell? ⟨b,d+j*3,aC⟩=aF (aA xk)/\W.cell? ⟨b,d+j*3+1,aC⟩=aF (aA t)/\W.cell? ⟨b,d+j*3+2,aC⟩=aF (aB xa Y xc))/\(W.cell? ⟨wr.heap.size,0,aC⟩=aF (aA yk)/\W.cell? ⟨wr.heap.size,1,aC⟩=aF (aA yn)/\W.cell? ⟨wr.heap.size,2,aC⟩=aF (aB v z yc)) }=>p.2.2.2.2.2
        letI:Inhabited { W:World // W.cell? ⟨w.heap.size,0,aC⟩=aF (aB (aF ⟨b,d,aC⟩) q s)/\(W.cell? ⟨b,d+j*3,aC⟩=aF (aA xk)/\W.cell? ⟨b,d+j*3+1,aC⟩=aF (aA t)/\W.cell? ⟨b,d+j*3+2,aC⟩=aF (aB xa Y xc))/\(W.cell? ⟨wr.heap.size,0,aC⟩=aF (aA yk)/\W.cell? ⟨wr.heap.size,1,aC⟩=aF (aA yn)/\W.cell? ⟨wr.heap.size,2,aC⟩=aF (aB v z yc)) }:=⟨⟨m.drew,ed⟩⟩;go_upto_region 16 with fail
        refine AK (S:=fun W=>W.cell? ⟨w.heap.size,0,aC⟩=aF (aB (aF ⟨b,d,aC⟩) q s)/\(W.cell? ⟨b,d+j*3,aC⟩=aF (aA xk)/\W.cell? ⟨b,d+j*3+1,aC⟩=aF (aA t)/\W.cell? ⟨b,d+j*3+2,aC⟩=aF (aB xa Y xc))/\(W.cell? ⟨wr.heap.size,0,aC⟩=aF (aA yk)/\W.cell? ⟨wr.heap.size,1,aC⟩=aF (aA yn)/\W.cell? ⟨wr.heap.size,2,aC⟩=aF (aB v z yc))) 9 10 (by kernel_rfl) rfl ?_;refine A9 [true,true,true,true,true,true,true,false,false,false] 3 rfl (by kernel_rfl) ed ?_;simp only[AZ,Bc,AX];iterate 7 (refine A2 (fun K l=>?_);go_simp;refine l _ ?_;clear l K)
        refine A8 ?_;clear bm bn bo cu e7 e8 e9;refine Af (f:=2) (rs:=[7]) (by kernel_rfl) (by simp) ?_;refine Ag.cons rfl (by decide) (fun K l=>?_) Ag.nil;go_simp;go_wp2_with (go_at_call 98;refine ea.mono ?_;rintro e al ⟨e0,bw,rfl,bu,fa,o7,fk,dd⟩;obtain⟨am,an,rfl,_⟩:=Al o7.row)
        have J:Below m.heap.size m al:=N.trans dd;have e1:=J.size;have fb:=V.trans (J.mono (by omega));refine l.out _ _ (dj.out _ fb (ae.out _ J)) ?_;clear l K;refine Af (f:=1) (rs:=[8]) (by kernel_rfl) (by simp) ?_;refine Ag.cons rfl (by decide) (fun K l=>?_) Ag.nil;have ah:=(cj.out.V J).row;have E:=AF o7.row;have ai:=UU (cs:=bw) (fun dx c8=>by obtain⟨a,c,e⟩:=Am.ad (o7.cin.2 dx c8).1;exact⟨a,_,c,e⟩);refine A0 rfl _ _ 34 rfl (w.heap.size+2) 93 i0 _ 5 80 underlying34 cc cd ce cf rfl (by decide) _ cs.length _ rfl ah _ bw.length _ rfl E ai (by unfold cW;omega) (by omega) (by omega) ?_;intro bp bq P aj I ak;have Q:=PY cj.out (by omega) o7 J aj I ak;have ax:=V.trans (Q.2.mono (by omega));have a0:wr.heap.size<al.heap.size:=by omega
        have a1:=ae.out _ J;have de:P.cell? ⟨wr.heap.size,0,aC⟩=aF (aA yk)/\P.cell? ⟨wr.heap.size,1,aC⟩=aF (aA yn)/\P.cell? ⟨wr.heap.size,2,aC⟩=aF (aB v z yc):=⟨(I.cell_far ⟨wr.heap.size,0,aC⟩ a0 (cA bb.out)).trans a1.1,(I.cell_far ⟨wr.heap.size,1,aC⟩ a0 (cA bb.out)).trans a1.2.1,(I.cell_far ⟨wr.heap.size,2,aC⟩ a0 (cA bb.out)).trans a1.2.2⟩;refine l.out _ _ (dj.out _ ax de) ?_;clear l K;have ay:=Ab (show Abv (w.heap.size+2) w2 n o q ac (aB bp (cs.length+bw.length) bq) (.int .i64 ((k:Int)+1)) P from⟨k+1,cs++bw,by rw[bM];rfl,by omega,by
         rw[a7.out,aY,d3.out,cR,e3.out,bu];rfl,fun c C=>by
         rcases bX.1 C with C|C
         ·exact bl.out c C
         ·exact fa c C,by rw[cO];omega,Q.1,ax⟩)
        clear ah E ai aj I ak Q o7 bu;generalize bw.length=fl at *;refine Bi (by kernel_rfl) rfl (by kernel_rfl) ?_;intro K l;go_simp;refine l.out _ _ (bG ?_);clear l K;go_wp2;go_roundw;case rel=>exact ay.out
        case measure=>simp[intOf];omega
      ·obtain rfl:k=ac:=by omega
       have fc:o.take k=o:=by rw[<-cw.out,<-cz.out,<-aP (f:=BAt.I),bF]
       rw[fc]at O;have bj:=Ab (show D9 (diffS n o) w (aJ (aB ar cs.length au)) wr from⟨_,cs,rfl,by rw[cy.out,O];simp,ad,by omega,Ay.mono M (by omega),bc.trans (A.mono (by omega))⟩);clear M ad O;generalize cs.length=fm at *;go_wp2;go_ret;exact bj.out
def Dt(P:List PBlock)(kind name:ByteArray)(t:Nat):Int:=match P[t]? with
 | some b=>blockCmp b.aa b.name kind name
 | none=>0
def L3(P:List PBlock)(kind name:ByteArray)(i:Nat):Prop:=i<=P.length/\(∀t,t<i->Dt P kind name t<0)/\∀t,i<=t->t<P.length->¬Dt P kind name t<0
def IQ(P:List PBlock)(kind name:ByteArray)(w:World)(e:bZ)(w':World):Prop:=∃(i:Nat) (f:Bool),e=aJ (aO #[.int .i64 (i:Int),.bool f])/\L3 P kind name i/\(f=true↔i<P.length/\Dt P kind name i=0)/\Below w.heap.size w w'
theorem SU(kind name:ByteArray)(H:Au w v bs)(an:bs.length<=1048576)(P:∀s t,s<=t->t<bs.length->Dt (bs.map BAt.I) kind name t<0->Dt (bs.map BAt.I) kind name s<0):Calls prog 176 #[v,aU #[aA kind,aA name,aB aC 0 0],.func (.func 51) #[] #[]] w fun e w'=>IQ (bs.map BAt.I) kind name w e w':=by
 obtain⟨ao,ap,rfl⟩:=H.1.ad;have o:=(aM w.heap.size w).alloc (aL _) (aH #[aA kind,aA name,aB aC 0 0] 46);have ac:=Ai w (aH #[aA kind,aA name,aB aC 0 0] 46);have Q:=Ab (H.V o);have R:=Ab P;generalize S:bs.length=n at *;have q:=Ab S;clear H P S;generalize U:w.alloc (aH #[aA kind,aA name,aB aC 0 0] 46)=w1 at *;have V:=Ab U;clear U;go_enter func176,ntmps176;go_wp2;rw[V.out];go_loopw [9,10] (fun I J wr=>∃(i j:Nat),I=.int .i64 (i:Int)/\J=.int .i64 (j:Int)/\i<=j/\j<=n/\Hid (∀t,t<i->Dt (bs.map BAt.I) kind name t<0)/\Hid (∀t,j<=t->t<n->¬Dt (bs.map BAt.I) kind name t<0)/\Below w1.heap.size w1 wr) (fun I J _=>(intOf J-intOf I).toNat)
 case atStart=>exact⟨0,n,rfl,rfl,by omega,by omega,Ab (fun t h=>by omega),Ab (fun t h K=>by omega),aM _ _⟩
 case round =>
  obtain⟨i,j,rfl,rfl,aq,ad,C,E,a⟩:=hrel;have z0:=(a.block w.heap.size (by rw[<-V.out];simp)).trans ac;have k0:=Aa z0 0;have u:=Aa z0 1;have x:=Aa z0 2;simp only[aG,aE,aI]at k0 u x;by_cases ar:i<j
  ·have ae:((i:Int)<(j:Int)):=by omega
   go_upto_region 5 with fail
   obtain⟨h,af,au,av⟩:∃h:Nat,((i:Int)+(j:Int))/2=(h:Int)/\i<=h/\h<j:=⟨(i+j)/2,by omega,by omega,by omega⟩;rw[af];obtain⟨D,r,T,b,d⟩:=AC bs h (by have:=q.out;omega);have f:=Q.out.V a;have k:=f.1;rw[b]at k;obtain⟨g,off,rfl,c0,l,c2⟩:=k.block;obtain⟨y,z,A⟩:=(f.2 r (by rw[b];simp)).1.ad;rw[A]at c2;rw[d]at c0 l c2;have F:=Ab (show Dt (bs.map BAt.I) kind name h=blockCmp r.aa r.name kind name from by
    unfold Dt;rw[bK,b,aV (by omega),d,bS];rfl)
   have B:∀p:Gr wr,Calls prog 51 #[aU #[aA r.aa,aA r.name,aB y r.ls.length z],aU #[aA kind,aA name,aB aC 0 0]] p.u fun e w'=>e=aJ (.int .i64 (blockCmp r.aa r.name kind name))/\Below p.u.heap.size p.u w':=fun p=>(Db r.aa r.name kind name r.ls.length 0 z 0 y aC p.u).mono fun e w' h=>⟨h.1,h.2.1⟩
   have L:=fun p:Gr wr=>Aq c0 p
   have u1:=fun p:Gr wr=>Aq l p
   have u2:=fun p:Gr wr=>Aq c2 p
   have v0:=fun p:Gr wr=>Aq k0 p
   have v1:=fun p:Gr wr=>Aq u p
   have v2:=fun p:Gr wr=>Aq x p
   have ag:(0:Int)<=(h:Int):=by omega
   have h1:(h:Int)<(n:Int):=by omega
   clear f k A b d c0 l c2;generalize r.aa=rk at *;generalize r.name=M at *;generalize r.ls.length=ah at *;generalize N:blockCmp rk M kind name=G at *;clear N;refine A5 (by kernel_rfl) (by kernel_rfl) ?_;iterate 6 quiet_step (fail)
   quiet_step ((go_at_call 51;refine CD (B _)))
   quiet_step (fail)
   refine bH ?_;rintro c ⟨⟨_,m⟩,rfl⟩;have W:=a.trans (m.mono a.size);clear L u1 u2 v0 v1 v2 B k0 u x;by_cases X:G<0
   ·have ai:=Ab (show ∀t,t<h+1->Dt (bs.map BAt.I) kind name t<0 from fun t Y=>R.out t h (by omega) (by omega) (by rw[F.out];exact X));go_wp2;go_roundw;case rel=>exact⟨h+1,j,by go_num,rfl,by omega,by omega,ai,E,W⟩
    case measure=>simp[intOf];omega
   ·have aj:=Ab (show ∀t,h<=t->t<n->¬Dt (bs.map BAt.I) kind name t<0 from fun t Y ak al=>X (by rw[<-F.out];exact R.out h t Y ak al));go_wp2;go_roundw;case rel=>exact⟨i,h,rfl,rfl,by omega,by omega,C,aj,W⟩
    case measure=>simp[intOf];omega
  ·obtain rfl:i=j:=by omega
   have ae:¬((i:Int)<(i:Int)):=by omega
   have Z:=Ab (show L3 (bs.map BAt.I) kind name i from⟨by rw[aP,q.out];exact ad,C.out,fun t h K=>E.out t h (by rw[aP,q.out]at K;exact K)⟩);have aa:=Ab (show (bs.map BAt.I).length=n from by rw[aP];exact q.out);by_cases ab:i<n
   ·obtain⟨D,r,T,b,d⟩:=AC bs i (by have:=q.out;omega);have f:=Q.out.V a;have k:=f.1;rw[b]at k;obtain⟨g,off,rfl,c0,l,c2⟩:=k.block;obtain⟨y,z,A⟩:=(f.2 r (by rw[b];simp)).1.ad;rw[A]at c2;rw[d]at c0 l c2;have F:=Ab (show Dt (bs.map BAt.I) kind name i=blockCmp r.aa r.name kind name from by
     unfold Dt;rw[bK,b,aV (by omega),d,bS];rfl)
    have B:∀p:Gr wr,Calls prog 51 #[aU #[aA r.aa,aA r.name,aB y r.ls.length z],aU #[aA kind,aA name,aB aC 0 0]] p.u fun e w'=>e=aJ (.int .i64 (blockCmp r.aa r.name kind name))/\Below p.u.heap.size p.u w':=fun p=>(Db r.aa r.name kind name r.ls.length 0 z 0 y aC p.u).mono fun e w' h=>⟨h.1,h.2.1⟩
    have L:=fun p:Gr wr=>Aq c0 p
    have u1:=fun p:Gr wr=>Aq l p
    have u2:=fun p:Gr wr=>Aq c2 p
    have v0:=fun p:Gr wr=>Aq k0 p
    have v1:=fun p:Gr wr=>Aq u p
    have v2:=fun p:Gr wr=>Aq x p
    have ag:(0:Int)<=(i:Int):=by omega
    have h1:(i:Int)<(n:Int):=by omega
    clear f k A b d c0 l c2 C E;generalize r.aa=rk at *;generalize r.name=M at *;generalize r.ls.length=ah at *;generalize N:blockCmp rk M kind name=G at *;clear N;go_upto_region 8 with fail
    refine A5 (by kernel_rfl) (by kernel_rfl) ?_;iterate 11 quiet_step (fail)
    quiet_step ((go_at_call 51;refine CD (B _)))
    iterate 4 quiet_step (fail)
    refine bH ?_;rintro c ⟨⟨_,m⟩,rfl⟩;have O:=Ab (show IQ (bs.map BAt.I) kind name w (aJ (aO #[.int .i64 (i:Int),.bool (G==0)])) c from⟨i,G==0,rfl,Z.out,by rw[aa.out,F.out,beq_iff_eq];exact⟨fun h=>⟨ab,h⟩,fun h=>h.2⟩,o.trans ((a.trans (m.mono a.size)).mono o.size)⟩);clear L u1 u2 v0 v1 v2 B k0 u x;go_wp2;go_ret2
    exact O.out
   ·have h1:¬(i:Int)<(n:Int):=by omega
    have O:=Ab (show ∀c,Below wr.heap.size wr c->IQ (bs.map BAt.I) kind name w (aJ (aO #[.int .i64 (i:Int),.bool false])) c from fun c m=>⟨i,false,rfl,Z.out,by rw[aa.out];exact⟨fun h=>Bool.noConfusion h,fun h=>absurd h.1 ab⟩,o.trans ((a.trans (m.mono a.size)).mono o.size)⟩);clear C E;go_upto_region 8 with fail
    refine A5 (by kernel_rfl) (by kernel_rfl) ?_;iterate 5 quiet_step (fail)
    iterate 8 (with_reducible refine AM ?_ ?_;kernel_rfl;simp only[Act.put,bJ,bO,bP])
    iterate 3 quiet_step (fail)
    refine bH ?_;rintro c ⟨⟨_,m⟩,rfl⟩;have am:=Ab (O.out c m);go_wp2;go_ret2
    exact am.out
theorem Iz(kind name:ByteArray)(a:Au w v bs)(j:bs.length<=1048576)(c:∀s t,s<=t->t<bs.length->Dt (bs.map BAt.I) kind name t<0->Dt (bs.map BAt.I) kind name s<0):Calls prog 132 #[v,aU #[aA kind,aA name]] w fun e w'=>IQ (bs.map BAt.I) kind name w e w':=by
 obtain⟨ao,l,rfl⟩:=a.1.ad;have b:=(aM w.heap.size w).alloc (aL _) (aH #[aA kind,aA name] 73);have d:=SU kind name (a.V b) j c;clear a c;generalize bs.length=n at *;go_enter func132,ntmps132;go_wp2_with (go_at_call 176;refine d.mono ?_)
 rintro e w2 ⟨i,f,rfl,h1,g,h⟩;have k:=Ab (show IQ (bs.map BAt.I) kind name w (aJ (aO #[.int .i64 (i:Int),.bool f])) w2 from⟨i,f,rfl,h1,g,b.trans (h.mono b.size)⟩);clear d h1 g h;go_wp2;go_ret2
 exact k.out
theorem MS{P:List PBlock}(h:P.Pairwise (fun a b=>blockLt a b=true))(kind name:ByteArray):∀s t,s<=t->t<P.length->Dt P kind name t<0->Dt P kind name s<0:=by
 intro s t i d c;rcases Nat.lt_or_ge s t with f|j
 ·have e:s<P.length:=by omega
  have h1:=List.pairwise_iff_getElem.1 h s t e d f;unfold Dt at c⊢;rw[bL d]at c;rw[bL e];simp only at c⊢;have g:=(Cc P[t] ⟨kind,name,[]⟩).1 c;exact(Cc P[s] ⟨kind,name,[]⟩).2 (Cr _ _ _ h1 g)
 ·have:s=t:=by omega
  rw[this];exact c
variable {xa:Option Addr}{ys:List (List UInt8)}
theorem NV{kx ky:ByteArray}{c:Option Addr}{a b d f:Nat}{xs:List (List UInt8)}(h1:Am w (aB xa a d) xs.length 1 (strs xs))(h:Am w (aB c b f) ys.length 1 (strs ys))(j:a<=1048576)(k:b<=1048576):Calls prog 178 #[aU #[aA kx,aB xa a d],aU #[aA ky,aB c b f]] w fun e w'=>e=aJ (.bool (decide (xs=ys)))/\Below w.heap.size w w':=by
 have g:Below w.heap.size w ((w.alloc (aH #[aA kx,aB xa a d] 115)).alloc (aH #[aA ky,aB c b f] 115)):=((aM w.heap.size w).alloc (aL _) _).alloc (by simp) _;have i:=GI (h1.V g) (h.V g) j k;clear h1 h;go_enter func178,ntmps178;go_wp2_with (go_at_call 127;refine i.mono ?_)
 rintro e w2 ⟨rfl,l,rfl⟩;clear i;go_wp2;go_ret;exact⟨rfl,below_drewN g l⟩
theorem UV{xs ys:List LAt}(h1:Ap w va xs)(u:Ap w vb ys)(v:Aj xs)(H:Aj ys):Calls prog 177 #[va,vb,.func (.func 178) #[] #[]] w fun e w'=>e=aJ (.bool (decide (xs.map LAt.ws=ys.map LAt.ws)))/\Below w.heap.size w w':=by
 obtain⟨ao,ca,rfl⟩:=h1.1.ad;obtain⟨bo,cb,rfl⟩:=u.1.ad;by_cases k:xs.length=ys.length
 ·have U:=Ab k;have ai:=Ab h1;have aj:=Ab u;have ak:=Ab v;have al:=Ab H;have ay:xs.length<=1048576:=v.1;rw[<-k];clear h1 u v H k;generalize V:xs.length=n at *;have z:=Ab V;clear V;have az:((n:Int) != (n:Int))=false:=by simp
  go_enter func177,ntmps177;go_wp2;go_loopw [17] (fun i wr=>∃j:Nat,i=.int .i64 (j:Int)/\j<=n/\Hid ((xs.take j).map LAt.ws=(ys.take j).map LAt.ws)/\Below w.heap.size w wr) (fun i _=>n-(intOf i).toNat)
  case atStart=>exact⟨0,rfl,by omega,Ab (by simp),aM _ _⟩
  case round =>
   obtain⟨j,rfl,a0,A,c⟩:=hrel;by_cases a1:j<n
   ·obtain⟨D,x,T,o,C⟩:=AC xs j (by have:=z.out;omega);obtain⟨am,y,a2,p,E⟩:=AC ys j (by have:=U.out;have:=z.out;omega);have I:=ai.out.V c;have J:=aj.out.V c;have K:x∈xs:=by rw[o];simp
    have L:y∈ys:=by rw[p];simp
    have M:=I.1;have N:=J.1;rw[o]at M;rw[p]at N;obtain⟨g,off,rfl,W,c2⟩:=M.ai;obtain⟨a3,a4,rfl,F,q⟩:=N.ai;have r:=I.2 x K;have s:=J.2 y L;obtain⟨a,b,X⟩:=Am.ad r;obtain⟨d,f,Y⟩:=Am.ad s;have Z:=(ak.out.2 x K).1;have aa:=(al.out.2 y L).1;unfold BL at r s;rw[X]at c2 r;rw[Y]at q s;simp only[C]at W c2;simp only[E]at F q;have an:=Ab (show ¬x.ws=y.ws->decide (xs.map LAt.ws=ys.map LAt.ws)=false from fun h=>decide_eq_false (fun e=>by
     have ab:=congrArg (fun l:List (List (List UInt8))=>l[j]?) e;simp only[bK,o,p,aV (show D.length<=j by omega),aV (show am.length<=j by omega),C,E,bS,aE,bU]at ab;exact h (cC ab)))
    have ap:=Ab (show x.ws=y.ws->(xs.take (j+1)).map LAt.ws=(ys.take (j+1)).map LAt.ws from fun aq=>by
     have ar:xs.take (j+1)=xs.take j++[x]:=by rw[o,<-C,Bk,By]
     have t2:ys.take (j+1)=ys.take j++[y]:=by rw[p,<-E,Bk,By]
     rw[ar,t2,aY,aY,A.out,cN,cN,aq])
    have a5:(0:Int)<=(j:Int):=by omega
    have a6:(j:Int)<(n:Int):=by omega
    have G:=(aM wr.heap.size wr).alloc (aL _) (aH #[aA x.key,aB a x.ws.length b] 115);have t:=G.alloc (by simp) (aH #[aA y.key,aB d y.ws.length f] 115);have au:=(G.cell (aD wr _ F)).trans F;have av:=(G.cell (aD wr _ q)).trans q;have O:((wr.alloc (aH #[aA x.key,aB a x.ws.length b] 115)).alloc (aH #[aA y.key,aB d y.ws.length f] 115)).heap[wr.heap.size]?=aF (aH #[aA x.key,aB a x.ws.length b] 115 (0,0)):=by
     have aw:=(aM (wr.alloc (aH #[aA x.key,aB a x.ws.length b] 115)).heap.size (wr.alloc (aH #[aA x.key,aB a x.ws.length b] 115))).alloc (aL _) (aH #[aA y.key,aB d y.ws.length f] 115);rw[aw.block wr.heap.size (by simp)];exact Ai wr _
    have P:((wr.alloc (aH #[aA x.key,aB a x.ws.length b] 115)).alloc (aH #[aA y.key,aB d y.ws.length f] 115)).heap[wr.heap.size+1]?=aF (aH #[aA y.key,aB d y.ws.length f] 115 (0,0)):=by
     have:=Ai (wr.alloc (aH #[aA x.key,aB a x.ws.length b] 115)) (aH #[aA y.key,aB d y.ws.length f] 115);rw[aS]at this;exact this
    have k0:=Aa O 0;have ac:=Aa O 1;have ad:=Aa P 0;have ae:=Aa P 1;simp only[aG,aE,aI]at k0 ac ad ae;have Q:=NV (kx:=x.key) (ky:=y.key) (r.V t) (s.V t) Z aa;generalize af:decide (x.ws=y.ws)=ax at Q;have ag:=Ab af;clear I J K L M N r s X Y o p C E Z aa F q A af O P;generalize x.key=xk at *;generalize y.key=yk at *;generalize x.ws.length=a7 at *;generalize y.ws.length=a8 at *;go_wp2_with (go_at_call 178;refine Q.mono ?_)
    rintro e w2 ⟨rfl,ah⟩;have B:=Ab (c.trans ((t.trans (ah.mono t.size)).mono c.size));clear c G t ah Q k0 ac ad ae W c2 au av;cases ax
    ·have R:=an.out (of_decide_eq_false ag.out);go_wp2;go_ret;exact⟨R▸rfl,B.out⟩
    ·have S:=Ab (ap.out (of_decide_eq_true ag.out));go_wp2;go_roundw;case rel=>exact⟨j+1,by go_num,by omega,S,B.out⟩
     case measure=>simp[intOf];omega
   ·obtain rfl:j=n:=by omega
    have S:=decide_eq_true (show xs.map LAt.ws=ys.map LAt.ws from by
     have h:=A.out;have e:xs.length=ys.length:=z.out.trans U.out;rw[<-z.out,bF,e,bF]at h;exact h)
    clear A;go_wp2;go_ret;exact⟨S▸rfl,c⟩
 ·have R:=decide_eq_false (show ¬xs.map LAt.ws=ys.map LAt.ws from fun e=>k (by have:=congrArg List.length e;simpa using this));have a9:((xs.length:Int) != (ys.length:Int))=true:=by rw[bne_iff_ne];omega
  clear h1 u v H k;generalize xs.length=n at *;generalize ys.length=m at *;go_enter func177,ntmps177;go_wp2;go_ret;exact⟨R▸rfl,aM _ _⟩
variable {Q:Exit -> Act -> World -> Prop}{a:Act}{W0:World}{g:Nat}
def Qd: Oper := ⟨aF 17, .move (.tmp 3), 52, "l3_parse.go:179", #[], aC⟩
def Qe: Oper := ⟨aF 18, .indexAddr 52 (.tmp 17) (.const (.int .i64 0)), 0, "l3_parse.go:179", #[⟨0, .data⟩], aC⟩
def Qf: Oper := ⟨aF 19, .load 9 (.tmp 18), 9, "l3_parse.go:179", #[⟨1, .data⟩], aC⟩
def Qg: Oper := ⟨aF 20, .move (.tmp 3), 52, "l3_parse.go:179", #[], aC⟩
def Qh: Oper := ⟨aF 21, .slice 52 (.tmp 20) (aF (.const (.int .i64 1))) aC aC, 52, "l3_parse.go:179", #[⟨3, .data⟩], aC⟩
def Qi: Oper := ⟨aF 22, .build 115 #[(0, .tmp 19), (1, .tmp 21)], 115, "l3_parse.go:179", #[⟨2, .data⟩, ⟨4, .data⟩], aC⟩
def Va: Oper := ⟨aF 10, .alloc 115, 0, "l3_parse.go:179", #[], aC⟩
def Qj: Oper := ⟨aC, .store 115 (.tmp 10) (.tmp 22), 0, "l3_parse.go:179", #[⟨6, .data⟩, ⟨5, .data⟩, ⟨0, .phase⟩, ⟨1, .phase⟩, ⟨2, .phase⟩, ⟨3, .phase⟩, ⟨4, .phase⟩, ⟨5, .phase⟩, ⟨6, .phase⟩], aC⟩
def Ae1:List Oper:=[Qd,Qe,Qf,Qg,Qh,Qi,Va,Qj]
def A3F(W0:World)(g n wc:Nat)(ta:Option Addr)(key:ByteArray)(i:Nat)(x:Value)(W:World):Prop:=match i with
 | 0=>x=(aB (aF ⟨g,0,aC⟩) (n+1) wc)
 | 1=>x=(aT (aF ⟨g,0,aC⟩))
 | 2=>x=aA key
 | 3=>x=(aB (aF ⟨g,0,aC⟩) (n+1) wc)
 | 4=>x=(aB ta n (wc-1))
 | 5=>x=aU #[aA key,(aB ta n (wc-1))]
 | 6=>∃R,x=aT (aF ⟨R,0,aC⟩)/\W.heap[R]?=aF (aH #[aA ⟨#[]⟩,aB aC 0 0] 115 (0,0))/\W0.heap.size<=R
 | _=>True
theorem Zn{ta:Option Addr}{key:ByteArray}(T:(if wc=1 then aF ⟨g,0,aC⟩ else aF ⟨g,1,aC⟩:Option Addr)=ta)(t:W0.cell? ⟨g,0,aC⟩=aF (aA key))(U:n+1<=wc)(u:a.eval (.tmp 3)=(aB (aF ⟨g,0,aC⟩) (n+1) wc))(V:a.tmps.size=36)
  (A:∀v a' R W',a'=An a [17,18,19,20,21,22,10] v->v 6=aT (aF ⟨R,0,aC⟩)->W0.heap.size<=R->Below W0.heap.size W0 W'->W'.heap[R]?=aF (aH #[aA key,(aB ta n (wc-1))] 115 (0,0))->Q .normal a' W'):(cZ 3 Ae1.toArray true).wp prog Q a W0:=by
 have k:([17,18,19,20,21,22,10]:List Nat).Nodup:=by decide
 have i0:(0:Int)<(n:Int)+1:=by omega
 have X:(1:Int)<=(n:Int)+1:=by omega
 have i2:(n:Int)+1<=(wc:Int):=by omega
 refine Bu [17,18,19,20,21,22,10] (A3F W0 g n wc ta key) (fun _ W=>Below W0.heap.size W0 W) 7 8 [0,1,2,3,4,5,6,7] (by kernel_rfl) rfl (by decide) (by kernel_rfl) ?h1 (aM _ _).drew ?hall;case h1 =>
  intro i x W Y;unfold A3F;split <;> first|omega|trivial
 refine Ak.ae (o:=Qd) [] (by kernel_rfl) (by decide) (by kernel_rfl) rfl ?o0 (Ak.ae (o:=Qe) [0] (by kernel_rfl) (by decide) (by kernel_rfl) rfl ?o1 (Ak.ae (o:=Qf) [1] (by kernel_rfl) (by decide) (by kernel_rfl) rfl ?o2 (Ak.ae (o:=Qg) [] (by kernel_rfl) (by decide) (by kernel_rfl) rfl ?o3 (Ak.ae (o:=Qh) [3] (by kernel_rfl) (by decide) (by kernel_rfl) rfl ?o4 (Ak.ae (o:=Qi) [2,4] (by kernel_rfl) (by decide) (by kernel_rfl) rfl ?o5 (Ak.ae (o:=Va) [] (by kernel_rfl) (by decide) (by kernel_rfl) rfl ?o6 (Ak.lastQ (o:=Qj) [6,5,0,1,2,3,4,5,6] (by kernel_rfl) (by kernel_rfl) rfl ?o7)))))));case o0 =>
  rintro p L _ W m l ⟨v,rfl,c,d⟩ K f;have r:=(A6 (v:=v) (show 3 ∉ ([17,18,19,20,21,22,10]:List Nat) by decide)).trans u;have b : aN (An a [17, 18, 19, 20, 21, 22, 10] v).eval Qd = aN (aW ⟨#[undef], []⟩) ⟨aF 0, .move (.const (aB (aF ⟨g, 0, aC⟩) (n + 1) wc)), 0, "", #[], aC⟩ := by simp only[aN, Ae, Qd, r]
  refine BJ.mk ?_;unfold aX;rw[b];clear b;go_simp;exact f.out _ _ (AE.ak (W:=W) c 0 (aB (aF ⟨g,0,aC⟩) (n+1) wc) (Av 0 k rfl) (fun _ _ _ h=>h) rfl d)
 case o1 =>
  rintro p L _ W m l ⟨v,rfl,c,d⟩ K f;have B:(An a [17,18,19,20,21,22,10] v).eval (.tmp 17)=_:=(Ao 0 k rfl (by omega)).trans (c 0 (l 0 (by simp)));have b : aN (An a [17, 18, 19, 20, 21, 22, 10] v).eval Qe = aN (aW ⟨#[undef], []⟩) ⟨aF 0, .indexAddr 52 (.const (aB (aF ⟨g, 0, aC⟩) (n + 1) wc)) (.const (.int .i64 0)), 0, "", #[], aC⟩ := by simp only[aN, Ae, Qe, B]
  refine BJ.mk ?_;unfold aX;rw[b];clear b;go_simp;exact f.out _ _ (AE.ak (W:=W) c 1 (aT (aF ⟨g,0,aC⟩)) (Av 1 k rfl) (fun _ _ _ h=>h) rfl d)
 case o2 =>
  rintro p L _ W m l ⟨v,rfl,c,d⟩ K f;have C:(An a [17,18,19,20,21,22,10] v).eval (.tmp 18)=_:=(Ao 1 k rfl (by omega)).trans (c 1 (l 1 (by simp)));have Z:=(d.cell (aD _ _ t)).trans t;have b : aN (An a [17, 18, 19, 20, 21, 22, 10] v).eval Qf = aN (aW ⟨#[undef], []⟩) ⟨aF 0, .load 9 (.const (aT (aF ⟨g, 0, aC⟩))), 0, "", #[], aC⟩ := by simp only[aN, Ae, Qf, C]
  refine BJ.mk ?_;unfold aX;rw[b];clear b;go_simp;exact f.out _ _ (AE.ak (W:=W) c 2 (aA key) (Av 2 k rfl) (fun _ _ _ h=>h) rfl d)
 case o3 =>
  rintro p L _ W m l ⟨v,rfl,c,d⟩ K f;have r:=(A6 (v:=v) (show 3 ∉ ([17,18,19,20,21,22,10]:List Nat) by decide)).trans u;have b : aN (An a [17, 18, 19, 20, 21, 22, 10] v).eval Qg = aN (aW ⟨#[undef], []⟩) ⟨aF 0, .move (.const (aB (aF ⟨g, 0, aC⟩) (n + 1) wc)), 0, "", #[], aC⟩ := by simp only[aN, Ae, Qg, r]
  refine BJ.mk ?_;unfold aX;rw[b];clear b;go_simp;exact f.out _ _ (AE.ak (W:=W) c 3 (aB (aF ⟨g,0,aC⟩) (n+1) wc) (Av 3 k rfl) (fun _ _ _ h=>h) rfl d)
 case o4 =>
  rintro p L _ W m l ⟨v,rfl,c,d⟩ K f;have D:(An a [17,18,19,20,21,22,10] v).eval (.tmp 20)=_:=(Ao 3 k rfl (by omega)).trans (c 3 (l 3 (by simp)));have b : aN (An a [17, 18, 19, 20, 21, 22, 10] v).eval Qh = aN (aW ⟨#[undef], []⟩) ⟨aF 0, .slice 52 (.const (aB (aF ⟨g, 0, aC⟩) (n + 1) wc)) (aF (.const (.int .i64 1))) aC aC, 0, "", #[], aC⟩ := by simp only[aN, Ae, Qh, D, bU, cP]
  refine BJ.mk ?_;unfold aX;rw[b];clear b;go_simp;exact f.out _ _ (AE.ak (W:=W) c 4 (aB ta n (wc-1)) (Av 4 k rfl) (fun _ _ _ h=>h) rfl d)
 case o5 =>
  rintro p L _ W m l ⟨v,rfl,c,d⟩ K f;have E:(An a [17,18,19,20,21,22,10] v).eval (.tmp 19)=_:=(Ao 2 k rfl (by omega)).trans (c 2 (l 2 (by simp)));have F:(An a [17,18,19,20,21,22,10] v).eval (.tmp 21)=_:=(Ao 4 k rfl (by omega)).trans (c 4 (l 4 (by simp)));have b : aN (An a [17, 18, 19, 20, 21, 22, 10] v).eval Qi = aN (aW ⟨#[undef], []⟩) ⟨aF 0, .build 115 #[(0, .const (aA key)), (1, .const (aB ta n (wc-1)))], 0, "", #[], aC⟩ := by simp only[aN, Ae, Qi, E, F, cS, cB, cY]
  refine BJ.mk ?_;unfold aX;rw[b];clear b;go_simp;exact f.out _ _ (AE.ak (W:=W) c 5 (aU #[aA key,(aB ta n (wc-1))]) (Av 5 k rfl) (fun _ _ _ h=>h) rfl d)
 case o6 =>
  rintro p L _ W m l ⟨v,rfl,c,d⟩ K f;have G:=(aM W.heap.size W).alloc (aL _) (aH #[aA ⟨#[]⟩,aB aC 0 0] 115);have b : aN (An a [17, 18, 19, 20, 21, 22, 10] v).eval Va = aN (aW ⟨#[undef], []⟩) ⟨aF 0, .alloc 115, 0, "", #[], aC⟩ := by kernel_rfl
  refine BJ.mk ?_;unfold aX;rw[b];clear b;go_simp;refine f.out _ _ (AE.ak (W:=W) c 6 (aT (aF ⟨W.heap.size,0,aC⟩)) (Av 6 k rfl) (fun j y w h=>?_) ⟨W.heap.size,rfl,Ai _ _,d.size⟩ (d.trans (G.mono d.size)));have H:j≠6:=fun e=>by rw[e,m]at w;cases w
  unfold A3F at *;split <;> simp only at h
  all_goals first|exact h|exact absurd rfl H|trivial
 case o7 =>
  rintro p L _ W m l ⟨v,rfl,c,d⟩ K f;obtain⟨R,z,q,s⟩:=c 6 (l 6 (by simp));have I:(An a [17,18,19,20,21,22,10] v).eval (.tmp 10)=_:=(Ao 6 k rfl (by omega)).trans z;have J:(An a [17,18,19,20,21,22,10] v).eval (.tmp 22)=_:=(Ao 5 k rfl (by omega)).trans (c 5 (l 5 (by simp)));have M:=Aa q 0;have N:=Aa q 1;simp only[aG,aE,aI]at M N;have aa:=Ac q 0;have ab:=Ac q 1;have O:=Ab (show ((W.setCell ⟨R,0,aC⟩ (aA key)).setCell ⟨R,1,aC⟩ (aB ta n (wc-1))).heap[R]?=aF (aH #[aA key,(aB ta n (wc-1))] 115 (0,0)) from by
   have P:(W.setCell ⟨R,0,aC⟩ (aA key)).heap[R]?=aF (aH #[aA key,aB aC 0 0] 115 (0,0)):=by rw[aR W R 0 _ _ _ q];rfl
   rw[aR _ R 1 _ _ _ P];rfl)
  have S:=Ab (Ad (Ad d ⟨R,0,aC⟩ s (aA key)) ⟨R,1,aC⟩ s (aB ta n (wc-1)));have b : aN (An a [17, 18, 19, 20, 21, 22, 10] v).eval Qj = aN (aW ⟨#[undef], []⟩) ⟨aF 0, .store 115 (.const (aT (aF ⟨R, 0, aC⟩))) (.const (aU #[aA key, (aB ta n (wc-1))])), 0, "", #[], aC⟩ := by simp only[aN, Ae, Qj, I, J]
  refine BJ.mk ?_;unfold aX;rw[b];clear b;go_simp;exact f.out _ _ (bG (A v _ R _ rfl z s S.out O.out))
variable {vr:Value}{L:List AL}
theorem Zo{R:Nat}{rest:ByteArray}{ev:Value}(h:Cy R rest m w):Calls prog 188 #[aT (aF ⟨R,0,aC⟩),vr,ev,aB aC 0 0] w fun e w'=>e=aJ (aO #[aB aC 0 0,Ja m 8])/\w'=w:=by
 have a:=FU h 8;go_enter func188,ntmps188;go_wp2_with (go_at_call 232;refine a.mono ?_;rintro e b ⟨rfl,rfl⟩)
 go_ret2
 exact⟨rfl,rfl⟩
def GA(R:List Plain)(B:Nat)(ev:Value)(es:List LAt)(m:Nat)(x:List UInt8)(xs:List (List UInt8))(ta:Option Addr)(wc:Nat)(w:World)(e:bZ)(w':World):Prop :=
 (lineFault R (es.map LAt.I) ⟨Az x,xs⟩≠0/\e=aJ (aO #[aB aC 0 0,Ja m (lineFault R (es.map LAt.I) ⟨Az x,xs⟩)])/\Below w.heap.size w w') \/
 (lineFault R (es.map LAt.I) ⟨Az x,xs⟩=0/\∃a c,e=aJ (aO #[aB a (es.length+1) c,.nilIface])/\w'.ownsRow B 115 2 (aB a (es.length+1) c) (es.length+1) ((es++[(⟨Az x,aB ta xs.length (wc-1),xs⟩:LAt)]).flatMap LAt.cells)/\∃W1,Below w.heap.size w W1/\W1.grownBy w' ev.ownBlock/\((bB a (es.length+1) c).ownBlock=ev.ownBlock\/(bB a (es.length+1) c).ownBlock=aF W1.heap.size))
theorem MV{x:List UInt8}{xs:List (List UInt8)}{ta:Option Addr}(a:(if wc=1 then aF ⟨g,0,aC⟩ else aF ⟨g,1,aC⟩:Option Addr)=ta)(c:Am w (aB (aF ⟨g,0,aC⟩) (xs.length+1) wc) (xs.length+1) 1 (strs (x::xs))):Am w (aB ta xs.length (wc-1)) xs.length 1 (strs xs):=by
 have i:=c.cap;obtain⟨b,off,e,d⟩:=c.at (by omega);cases e
 refine⟨by rw[CE];omega,ta,wc-1,rfl,⟨by omega,by omega⟩,?_⟩;by_cases f:xs.length=0
 ·exact .inl f
 ·rw[if_neg (by omega)]at a;refine .inr ⟨g,1,a.symm,fun j u h=>?_⟩;have:=d (j+1) u (by simpa [strs] using h);rw[cG]at this;rw[Nat.add_comm 1 j];exact this
theorem Wa{R ab:Nat}{rest:ByteArray}{ea:Option Addr}{ec:Nat}{es:List LAt}{x:List UInt8}{xs:List (List UInt8)}{ta:Option Addr}(h:Cy R rest m w)(t:Bh ab w vr L)(G:Un (L.map AL.I))(u:w.ownsRow B 115 2 (aB ea es.length ec) es.length (es.flatMap LAt.cells))(ac:B<=w.heap.size)(H:∀y∈es,BL w y)(az:es.length<=1000000)(I:∀y∈es,y.ws.length<=1048576)
  (n:Am w (aB (aF ⟨g,0,aC⟩) (xs.length+1) wc) (xs.length+1) 1 (strs (x::xs))) (J:∀y∈x::xs,y.length<=200) (a0:xs.length<=7) (K:(if wc=1 then aF ⟨g,0,aC⟩ else aF ⟨g,1,aC⟩:Option Addr)=ta) (M:BZ w) :
  Calls prog 188 #[aT (aF ⟨R,0,aC⟩),vr,aB ea es.length ec,aB (aF ⟨g,0,aC⟩) (xs.length+1) wc] w fun e w'=>GA (L.map AL.I) B (aB ea es.length ec) es m x xs ta wc w e w':=by
 obtain⟨b,off,ad,k0⟩:=n.word 0 (by simp);cases ad
 simp only[bE,bT]at k0;have ae:=n.cap;have N:=MV K n;have a1:(((xs.length:Int)+1)==0)=false:=by rw[beq_eq_false_iff_ne];omega
 generalize k:lineFault (L.map AL.I) (es.map LAt.I) ⟨Az x,xs⟩=d;obtain⟨i0,af,ag,ah,ai⟩:=cF CQ;have z:=Ab (show d≠0->∀W,Below w.heap.size w W->GA (L.map AL.I) B (aB ea es.length ec) es m x xs ta wc w (aJ (aO #[aB aC 0 0,Ja m d])) W from fun f W i=>.inl ⟨by rw[k];exact f,by rw[k],i⟩);have A:=Ab (show d=0->∀a c W,W.ownsRow B 115 2 (aB a (es.length+1) c) (es.length+1) ((es++[(⟨Az x,aB ta xs.length (wc-1),xs⟩:LAt)]).flatMap LAt.cells)->(∃W1,Below w.heap.size w W1/\W1.grownBy W (bB ea es.length ec).ownBlock/\((bB a (es.length+1) c).ownBlock=(bB ea es.length ec).ownBlock\/(bB a (es.length+1) c).ownBlock=aF W1.heap.size))->GA (L.map AL.I) B (aB ea es.length ec) es m x xs ta wc w (aJ (aO #[aB a (es.length+1) c,.nilIface])) W from fun f a c W aj ak=>.inr ⟨by rw[k];exact f,a,c,rfl,aj,ak⟩);have O:∀W,Below w.heap.size w W->Calls prog 135 #[vr,aB ea es.length ec,aU #[aA ⟨x.toArray⟩,aB ta xs.length (wc-1)]] W fun e w'=>e=aJ (.int .i64 d)/\Below W.heap.size W w':=fun W i=>by
  have:=It (w:=W) ⟨Az x,xs⟩ (t.V i) G ⟨(AF u).V i,fun y l=>(H y l).V i⟩ (by omega) I (N.V i) (by simp only;omega) (fun y l=>bI (J y (cI _ l)) (by decide)) (M.V i);rw[k]at this;exact this
 have al:=Ab u;have am:=Ab h;obtain⟨o,p,rfl⟩:∃o p,vr=aB o L.length p:=by
  obtain⟨o,p,e,_⟩:=Al (Ay.head t);exact⟨o,p,e⟩
 clear h t u H I n J M N k G;generalize P:es.length=an at *;have a2:=Ab P;clear P;generalize ao:xs.length=q at *;clear ao;generalize L.length=a3 at *;go_enter func188,ntmps188;go_upto_region 3 with fail
 refine Zn K k0 ae.1 (by kernel_rfl) (by kernel_rfl) ?_;intro v a' a4 W1 Q ap a5 C S;simp only[An,CY,bJ,bO,bP,ap]at Q;subst Q;have T:=O W1 C;have c0:=Aa S 0;have r:=Aa S 1;simp only[aG,aE,aI]at c0 r;go_wp2_with (go_at_call 135;refine T.mono ?_)
 first|rintro e w2 rfl s|rintro e w2 ⟨rfl,s⟩
 have j:=C.trans (s.mono C.size);have D:=am.out.V j;have U:=(s.cell (aD _ _ c0)).trans c0;have V:=(s.cell (aD _ _ r)).trans r;clear T O c0 r;by_cases f:d=0
 ·subst f;have X:=(AI al.out j).alloc (aH #[aA ⟨x.toArray⟩,aB ta q (wc-1)] 115);have Y:=Bn w2 #[aA ⟨x.toArray⟩,aB ta q (wc-1)] 115 2 rfl;have E:=CM (ls:=[⟨Az x,aB ta q (wc-1),xs⟩]) (fun y l=>by rw[bC.1 l];exact⟨_,_,_,rfl⟩);rw[cE]at E;have aq:=(aM w2.heap.size w2).alloc (aL _) (aH #[aA ⟨x.toArray⟩,aB ta q (wc-1)] 115);have ar:=j.trans (aq.mono j.size);clear D;go_wp2_with (at_builtin;refine AD (by rfl) _ _ 44 (by rfl) B 115 i0 _ 2 40 underlying44 af ag ah ai rfl (by decide) _ an _ (by rfl) X _ 1 _ (by rfl) Y E ?c3 ?c4 (bI ac (bI j.size (by simp))) ?_)
  case c3=>unfold cW;omega
  case c4=>omega
  intro au av aw Z aa ax;have F:=Ab (A.out (by trivial) au av aw (by rw[bN,cE];exact Z) ⟨_,ar,aa,by rw[aS];exact ax⟩);clear X Y E Z aa U V z A;go_wp2;go_ret2
  exact F.out
 ·have a6:(d==0)=false:=by rw[beq_eq_false_iff_ne];exact f
  have ay:=FU D d;have F:=Ab (z.out f w2 j);clear D U V z A;go_wp2_with (go_at_call 232;refine ay.mono ?_;rintro e a7 ⟨rfl,rfl⟩)
  go_ret2
  exact F.out
def JB(done:List PBlock)(x:List UInt8)(xs:List (List UInt8))(w:World)(e:bZ)(w':World):Prop:=Below w.heap.size w w'/\(((Be done aC x xs).1≠0/\e=aJ (aO #[aU #[aA ⟨#[]⟩,aA ⟨#[]⟩,aB aC 0 0],.int .i64 (Be done aC x xs).1]))\/((Be done aC x xs).1=0/\∃a,xs=[a]/\e=aJ (aO #[aU #[aA (Az x),aA (Az a),aB aC 0 0],.int .i64 0])))
theorem SZ{U:Option Addr}{x:List UInt8}{xs:List (List UInt8)}(t:Au w v bs)(V:bs.length<=1048576)(l:Am w (aB U (xs.length+1) wc) (xs.length+1) 1 (strs (x::xs)))(o:∀y∈x::xs,y.length<=200)(a2:xs.length<=7):Calls prog 84 #[aU #[v],aB U (xs.length+1) wc] w fun e w'=>JB (bs.map BAt.I) x xs w e w':=by
 obtain⟨va,c,rfl⟩:=t.1.ad;have b0:=((aM w.heap.size w).alloc (aL _) (aH #[aB va bs.length c] 25)).alloc (by simp) (aH #[aA ⟨#[]⟩,aA ⟨#[]⟩,aB aC 0 0] 46);have G:((w.alloc (aH #[aB va bs.length c] 25)).alloc (aH #[aA ⟨#[]⟩,aA ⟨#[]⟩,aB aC 0 0] 46)).heap[w.heap.size]?=aF (aH #[aB va bs.length c] 25 (0,0)):=by
  rw[((aM (w.alloc (aH #[aB va bs.length c] 25)).heap.size (w.alloc (aH #[aB va bs.length c] 25))).alloc (aL _) _).block w.heap.size (by simp)];exact Ai w _
 have z0:((w.alloc (aH #[aB va bs.length c] 25)).alloc (aH #[aA ⟨#[]⟩,aA ⟨#[]⟩,aB aC 0 0] 46)).heap[w.heap.size+1]?=aF (aH #[aA ⟨#[]⟩,aA ⟨#[]⟩,aB aC 0 0] 46 (0,0)):=by
  have:=Ai (w.alloc (aH #[aB va bs.length c] 25)) (aH #[aA ⟨#[]⟩,aA ⟨#[]⟩,aB aC 0 0] 46);rw[aS]at this;exact this
 have a3:((w.alloc (aH #[aB va bs.length c] 25)).alloc (aH #[aA ⟨#[]⟩,aA ⟨#[]⟩,aB aC 0 0] 46)).heap.size=w.heap.size+2:=by simp
 have H:=t.V b0;by_cases X:xs.length=1
 ·match xs,X,l,o with
  | [a],_,l,o =>
   obtain⟨g,off,rfl,k0⟩:=l.word 0 (by simp);obtain⟨a4,a5,aq,u⟩:=l.word 1 (by simp);cases aq
   simp only[bE,cD,bT]at k0 u;have i0:=(b0.cell (aD _ _ k0)).trans k0;have I:=(b0.cell (aD _ _ u)).trans u;have ar:(Az a).size<=1048576:=by
    have:=o a (by simp);show a.toArray.size<=1048576
    rw[bR];omega
   have m:=Ab (show ∀(z:Int) W,Below w.heap.size w W->z≠0->headFault (bs.map BAt.I) (Az x) (Az a)=z->JB (bs.map BAt.I) x [a] w (aJ (aO #[aU #[aA ⟨#[]⟩,aA ⟨#[]⟩,aB aC 0 0],.int .i64 z])) W from fun z W q au J=>⟨q,.inl (by rw[DE,J];exact⟨au,rfl⟩)⟩);have av:=Ab (show ∀W,Below w.heap.size w W->headFault (bs.map BAt.I) (Az x) (Az a)=0->JB (bs.map BAt.I) x [a] w (aJ (aO #[aU #[aA (Az x),aA (Az a),aB aC 0 0],.int .i64 0])) W from fun W q J=>⟨q,.inr (by rw[DE,J];exact⟨rfl,a,rfl,rfl⟩)⟩);generalize aw:(w.alloc (aH #[aB va bs.length c] 25)).alloc (aH #[aA ⟨#[]⟩,aA ⟨#[]⟩,aB aC 0 0] 46)=w1 at *;have Y:=Cf (Az x) w1;have A:=fun W=>Gb (Az a) W ar
   have K:=Ab b0;have Z:=Ab H;have aa:=Ab G;have ab:=Ab z0;have M:=Ab V;clear t l o k0 u G z0 b0 H V;go_enter func84,ntmps84;go_wp2_with (go_at_call 56;(try rw[aw]);refine Y.mono ?_)
   rintro e w2 ⟨vr,L,rfl,ac,ad,j⟩;obtain⟨ao,a6,rfl,_⟩:=Al (show w2.ownsRow w1.heap.size 54 4 vr L.length (L.flatMap AL.cells) from Ay.head ad);have ae:(rulesOf (Az x)).length=L.length:=by rw[<-ac,aP]
   have a7:L.length<=12:=by have:=(Bm (Az x)).1;omega
   have af:=Ab ae;have B:=K.out.trans (j.mono K.out.size);have a8:=j.size;have k:=(j.block (w.heap.size+1) (by omega)).trans ab.out;have ag:=(j.block w.heap.size (by omega)).trans aa.out;have d:=Aa k 0;have f:=Aa k 1;have i:=Aa k 2;have N:=Ac k 0;have O:=Ac k 1;have P:=Ac k 2;have r:=Aa ag 0;simp only[aG,aE,aI]at d f i r;have C:=(j.cell (aD _ _ i0)).trans i0;have D:=(j.cell (aD _ _ I)).trans I;have ah:=Ab (Z.out.V j);clear Y ac ad j i0 I ae Z aa ab K;generalize L.length=ai at *;by_cases aj:ai=0
   ·subst aj;go_wp2;exact aQ (v:=aO #[aU #[aA ⟨#[]⟩,aA ⟨#[]⟩,aB aC 0 0],.int .i64 3]) (by simp[aZ,results84,go_sem,d,f,i]) rfl (m.out 3 _ (Ad (Ad (Ad B ⟨w.heap.size+1,0,aC⟩ (by simp only;omega) _) ⟨w.heap.size+1,1,aC⟩ (by simp only;omega) _) ⟨w.heap.size+1,2,aC⟩ (by simp only;omega) _) (by decide) (by unfold headFault;rw[if_pos af.out]))
   ·have a9:((ai:Int)==0)=false:=by rw[beq_eq_false_iff_ne];omega
    have E:=Ab (show ¬(rulesOf (Az x)).length=0 by rw[af.out];exact aj);cases n:nameB (Az a).data.toList with
    | false =>
     rw[n]at A;have s:=Ab n;clear n;go_wp2_with (go_at_call 57;refine(A _).mono ?_;rintro e w3 ⟨rfl,rfl⟩)
     exact aQ (v:=aO #[aU #[aA ⟨#[]⟩,aA ⟨#[]⟩,aB aC 0 0],.int .i64 4]) (by simp[aZ,results84,go_sem,d,f,i]) rfl (m.out 4 _ (Ad (Ad (Ad B ⟨w.heap.size+1,0,aC⟩ (by simp only;omega) _) ⟨w.heap.size+1,1,aC⟩ (by simp only;omega) _) ⟨w.heap.size+1,2,aC⟩ (by simp only;omega) _) (by decide) (by unfold headFault;rw[if_neg E.out,if_pos s.out]))
    | true =>
     rw[n]at A;have s:=Ab n;clear n;have ak:∀p:Gr w2,Calls prog 52 #[aU #[aB va bs.length c],aA ⟨x.toArray⟩,aA ⟨a.toArray⟩] p.u fun e w'=>e=aJ (.int .i64 (headAt (bs.map BAt.I) (Az x) (Az a)))/\Below p.u.heap.size p.u w':=fun p=>Kl (Az x) (Az a) (ah.out.V p.h) M.out
     have al:=UT (bs:=bs.map BAt.I) (kind:=Az x) (name:=Az a);have ax:=fun p:Gr w2=>Aq C p
     have u1:=fun p:Gr w2=>Aq D p
     have u2:=fun p:Gr w2=>Aq r p
     have Q:=Ab al;have am:(bs.map BAt.I).length=bs.length:=aP ..;have an:=Ab am;have ba:=M.out;clear al ah M am;generalize headAt (bs.map BAt.I) (Az x) (Az a)=ay at *;generalize bb:bs.length=F at *;go_upto_region 7 with (go_at_call 57;refine(A _).mono ?_;rintro e w3 ⟨rfl,rfl⟩)
     refine A5 (by kernel_rfl) (by kernel_rfl) ?_;iterate 7 quiet_step (fail)
     quiet_step ((go_at_call 52;refine CD (ak _)))
     quiet_step (fail)
     refine bH ?_;rintro _ ⟨⟨bc,b⟩,rfl⟩;have R:=B.trans (b.mono B.size);have S:=(b.cell (aD _ _ C)).trans C;have bd:=(b.cell (aD _ _ D)).trans D;have t0:=(b.cell (aD _ _ d)).trans d;have T:=(b.cell (aD _ _ f)).trans f;have t2:=(b.cell (aD _ _ i)).trans i;have be:=(b.cell (aD _ _ r)).trans r;have bf:=(b.frozen (aD _ _ d)).trans N;have bg:=(b.frozen (aD _ _ f)).trans O;have bh:=(b.frozen (aD _ _ i)).trans P;clear ak ax u1 u2 C D d f i r N O P k ag b;by_cases az:0<=ay
     ·go_wp2;exact aQ (v:=aO #[aU #[aA ⟨#[]⟩,aA ⟨#[]⟩,aB aC 0 0],.int .i64 9]) (by simp[aZ,results84,go_sem,t0,T,t2]) rfl (m.out 9 _ (Ad (Ad (Ad R ⟨w.heap.size+1,0,aC⟩ (by simp only;omega) _) ⟨w.heap.size+1,1,aC⟩ (by simp only;omega) _) ⟨w.heap.size+1,2,aC⟩ (by simp only;omega) _) (by decide) (by unfold headFault;rw[if_neg E.out,if_neg (by rw[s.out];simp),if_pos (Q.out.1 az)]))
     ·by_cases ap:60<=F
      ·have a0:(60:Int)<=(F:Int):=by omega
       go_wp2;exact aQ (v:=aO #[aU #[aA ⟨#[]⟩,aA ⟨#[]⟩,aB aC 0 0],.int .i64 10]) (by simp[aZ,results84,go_sem,t0,T,t2]) rfl (m.out 10 _ (Ad (Ad (Ad R ⟨w.heap.size+1,0,aC⟩ (by simp only;omega) _) ⟨w.heap.size+1,1,aC⟩ (by simp only;omega) _) ⟨w.heap.size+1,2,aC⟩ (by simp only;omega) _) (by decide) (by unfold headFault;rw[if_neg E.out,if_neg (by rw[s.out];simp),if_neg (fun h=>absurd (Q.out.2 h) (by omega)),if_pos (by rw[an.out];exact ap)]))
      ·have a0:¬(60:Int)<=(F:Int):=by omega
       go_wp2;go_region
       go_wp2;exact aQ (v:=aO #[aU #[aA ⟨x.toArray⟩,aA ⟨a.toArray⟩,aB aC 0 0],.int .i64 0]) (by simp[aZ,results84,go_sem,t0,T,t2]) rfl (av.out _ (dA (Ad (Ad (Ad R ⟨w.heap.size+1,0,aC⟩ (by simp only;omega) _) ⟨w.heap.size+1,1,aC⟩ (by simp only;omega) _) ⟨w.heap.size+1,2,aC⟩ (by simp only;omega) _)) (by unfold headFault;rw[if_neg E.out,if_neg (by rw[s.out];simp),if_neg (fun h=>absurd (Q.out.2 h) (by omega)),if_neg (by rw[an.out];exact ap)]))
 ·have bi:(((xs.length:Int)+1) != 2)=true:=by rw[bne_iff_ne];omega
  have S:=FN (done:=bs.map BAt.I) (w:=x) X;have d:=Aa z0 0;have f:=Aa z0 1;have i:=Aa z0 2;have N:=Ac z0 0;have O:=Ac z0 1;have P:=Ac z0 2;simp only[aG,aE,aI]at d f i;have m:=Ab (fun W (q:Below w.heap.size w W)=>(show JB (bs.map BAt.I) x xs w (aJ (aO #[aU #[aA ⟨#[]⟩,aA ⟨#[]⟩,aB aC 0 0],.int .i64 2])) W from⟨q,.inl (by rw[S];exact⟨by simp,rfl⟩)⟩));have a1:=Ab b0;clear t l b0 z0 S o G H;generalize bs.length=F at *;generalize xs.length=bj at *;go_enter func84,ntmps84;go_wp2;exact aQ (v:=aO #[aU #[aA ⟨#[]⟩,aA ⟨#[]⟩,aB aC 0 0],.int .i64 2]) (by simp[aZ,results84,go_sem,d,f,i]) rfl (m.out _ a1.out)
variable {base:Nat}{e:TypeId}{xs:List Value}{a':Act}
theorem I3{size:Nat}(h:w.ownsRow base e size v n xs)(g:Nat)(b:v.ownBlock≠aF g)(cs:Array Value):(w.setRow g cs).ownsRow base e size v n xs:=by
 refine⟨h.1,?_⟩;rcases h.2 with c|⟨d,f,i,a,j,k,l⟩
 ·exact Or.inl c
 ·refine Or.inr ⟨d,f,i,a,j,?_,l⟩;rw[setRow_other _ _ _ _ (fun e=>b (by rw[a,e];rfl))];exact k
def Qk: Oper := ⟨aF 16, .move (.tmp 1), 52, "l3_parse.go:149", #[], aC⟩
def Ql: Oper := ⟨aF 17, .indexAddr 52 (.tmp 16) (.const (.int .i64 0)), 0, "l3_parse.go:149", #[⟨0, .data⟩], aC⟩
def Qm: Oper := ⟨aF 18, .load 9 (.tmp 17), 9, "l3_parse.go:149", #[⟨1, .data⟩], aC⟩
def Vb: Oper := ⟨aF 19, .buildSlice 52 0 #[], 52, "l3_parse.go:149", #[], aC⟩
def Qn: Oper := ⟨aF 20, .move (.tmp 1), 52, "l3_parse.go:149", #[], aC⟩
def Qo: Oper := ⟨aF 21, .slice 52 (.tmp 20) (aF (.const (.int .i64 1))) aC aC, 52, "l3_parse.go:149", #[⟨4, .data⟩], aC⟩
def Zp: Oper := ⟨aF 22, .call { callee := .builtin .append, args := #[.tmp 19, .tmp 21], argTypes := #[52, 52] }, 52, "l3_parse.go:149", #[⟨3, .data⟩, ⟨5, .data⟩], aC⟩
def Qp: Oper := ⟨aF 23, .build 115 #[(0, .tmp 18), (1, .tmp 22)], 115, "l3_parse.go:149", #[⟨2, .data⟩, ⟨6, .data⟩], aC⟩
def Vc: Oper := ⟨aF 7, .alloc 115, 0, "l3_parse.go:149", #[], aC⟩
def Qq: Oper := ⟨aC, .store 115 (.tmp 7) (.tmp 23), 0, "l3_parse.go:149", #[⟨8, .data⟩, ⟨7, .data⟩, ⟨6, .chain⟩, ⟨0, .phase⟩, ⟨1, .phase⟩, ⟨2, .phase⟩, ⟨3, .phase⟩, ⟨4, .phase⟩, ⟨5, .phase⟩, ⟨6, .phase⟩, ⟨7, .phase⟩, ⟨8, .phase⟩], aC⟩
def Ae2:List Oper:=[Qk,Ql,Qm,Vb,Qn,Qo,Zp,Qp,Vc,Qq]
def Xv(W0:World)(g n wc:Nat)(ta:Option Addr)(key:ByteArray)(ws:List Value)(i:Nat)(x:Value)(W:World):Prop:=match i with
 | 0=>x=(aB (aF ⟨g,0,aC⟩) (n+1) wc)
 | 1=>x=(aT (aF ⟨g,0,aC⟩))
 | 2=>x=aA key
 | 3=>∃h,x=aB (aF ⟨h,0,aC⟩) 0 0
 | 4=>x=(aB (aF ⟨g,0,aC⟩) (n+1) wc)
 | 5=>x=(aB ta n (wc-1))
 | 6=>∃ao c,x=aB ao n c/\W.ownsRow W0.heap.size 9 1 (aB ao n c) n ws
 | 7=>∃ao c,x=aU #[aA key,aB ao n c]/\W.ownsRow W0.heap.size 9 1 (aB ao n c) n ws
 | 8=>∃R,x=aT (aF ⟨R,0,aC⟩)/\W.heap[R]?=aF (aH #[aA ⟨#[]⟩,aB aC 0 0] 115 (0,0))/\W0.heap.size<=R
 | _=>True
theorem Xv.af{ta:Option Addr}{key:ByteArray}{ws:List Value}(a:Below W.heap.size W W')(j:Nat)(y:Value)(h:Xv W0 g n wc ta key ws j y W):Xv W0 g n wc ta key ws j y W':=by
 unfold Xv at *;split <;> simp only at h⊢
 all_goals first
  | exact h
  | (obtain⟨ao,c,e,d⟩:=h;exact⟨ao,c,e,AI d a⟩)
  | (obtain⟨R,e,b,f⟩:=h;exact⟨R,e,(a.block R (aK.1 b).1).trans b,f⟩)
def Ye(a0:Act)(W0:World)(g n wc:Nat)(ta:Option Addr)(key:ByteArray)(ws:List Value)(L:Nat->Bool)(a:Act)(W:World):Prop:=∃v:Nat->Value,a=An a0 [16,17,18,19,20,21,22,23,7] v/\(∀i,L i=true->Xv W0 g n wc ta key ws i (v i) W)/\Below W0.heap.size W0 W/\(L 3=true->L 6=false->W.ownsRow W0.heap.size 9 1 (v 3) 0 [])/\(L 6=true->L 3=true)/\(L 7=true->L 6=true)
theorem Ye.next{a0:Act}{ta:Option Addr}{key:ByteArray}{ws:List Value}{L:Nat->Bool}{v:Nat->Value}(h:∀i,L i=true->Xv W0 g n wc ta key ws i (v i) W)(i:Nat)(x:Value)(b:a'=An a0 [16,17,18,19,20,21,22,23,7] (fun j=>if j=i then x else v j))(c:∀j y,L j=true->Xv W0 g n wc ta key ws j y W->Xv W0 g n wc ta key ws j y W')(d:Xv W0 g n wc ta key ws i x W')(f:Below W0.heap.size W0 W')
  (k:BN L i 3=true->BN L i 6=false->W'.ownsRow W0.heap.size 9 1 (if 3=i then x else v 3) 0 []) (l:BN L i 6=true->BN L i 3=true) (m:BN L i 7=true->BN L i 6=true):Ye a0 W0 g n wc ta key ws (BN L i) a' W':=by
 refine⟨_,b,fun j o=>?_,f,k,l,m⟩;by_cases e:j=i
 ·subst e;simpa using d
 ·simp only[e,if_false];have a:L j=true:=by simpa [BN,e] using o
  exact c j _ a (h j a)
theorem Zq{ta:Option Addr}{key:ByteArray}{ws:List Value}(bb:(if wc=1 then aF ⟨g,0,aC⟩ else aF ⟨g,1,aC⟩:Option Addr)=ta)(O:W0.cell? ⟨g,0,aC⟩=aF (aA key))(bc:n+1<=wc)(Z:Am W0 (aB ta n (wc-1)) n 1 ws)(aa:∀y∈ws,y.oneCell'=true)(bd:n<=1000)(P:a.eval (.tmp 1)=(aB (aF ⟨g,0,aC⟩) (n+1) wc))(be:a.tmps.size=65)
  (ab:∀v a' R W' ao c,a'=An a [16,17,18,19,20,21,22,23,7] v->v 8=aT (aF ⟨R,0,aC⟩)->W0.heap.size<=R->Below W0.heap.size W0 W'->W'.heap[R]?=aF (aH #[aA key,aB ao n c] 115 (0,0))->W'.ownsRow W0.heap.size 9 1 (aB ao n c) n ws->Q .normal a' W'):(cZ 2 Ae2.toArray true).wp prog Q a W0:=by
 obtain⟨ac,ad,ae,af,ag⟩:=cF Jc;have m:([16,17,18,19,20,21,22,23,7]:List Nat).Nodup:=by decide
 have i0:(0:Int)<(n:Int)+1:=by omega
 have bf:(1:Int)<=(n:Int)+1:=by omega
 have i2:(n:Int)+1<=(wc:Int):=by omega
 refine FE (Ye a W0 g n wc ta key ws) 9 10 [0,1,2,3,4,5,6,7,8,9] (by kernel_rfl) rfl (by decide) (by kernel_rfl) ?h1 ?hall;case h1 =>
  refine⟨_,Kk a [16,17,18,19,20,21,22,23,7],fun i ah=>?_,(aM _ _).drew,fun h=>by simp at h,fun h=>by simp at h,fun h=>by simp at h⟩;have bg:10<=i:=by simpa using ah
  unfold Xv;split <;> first|omega|trivial
 refine Ak.ae (o:=Qk) [] (by kernel_rfl) (by decide) (by kernel_rfl) rfl ?o0 (Ak.ae (o:=Ql) [0] (by kernel_rfl) (by decide) (by kernel_rfl) rfl ?o1 (Ak.ae (o:=Qm) [1] (by kernel_rfl) (by decide) (by kernel_rfl) rfl ?o2 (Ak.ae (o:=Vb) [] (by kernel_rfl) (by decide) (by kernel_rfl) rfl ?o3 (Ak.ae (o:=Qn) [] (by kernel_rfl) (by decide) (by kernel_rfl) rfl ?o4 (Ak.ae (o:=Qo) [4] (by kernel_rfl) (by decide) (by kernel_rfl) rfl ?o5 (Ak.ae (o:=Zp) [3,5] (by kernel_rfl) (by decide) (by kernel_rfl) rfl ?o6 (Ak.ae (o:=Qp) [2,6] (by kernel_rfl) (by decide) (by kernel_rfl) rfl ?o7 (Ak.ae (o:=Vc) [] (by kernel_rfl) (by decide) (by kernel_rfl) rfl ?o8 (Ak.lastQ (o:=Qq) [8,7,6,0,1,2,3,4,5,6,7,8] (by kernel_rfl) (by kernel_rfl) rfl ?o9)))))))));case o0 =>
  rintro u L _ W t k ⟨v,rfl,b,d,p,r,s⟩ K l;have F:=(A6 (v:=v) (show 1 ∉ ([16,17,18,19,20,21,22,23,7]:List Nat) by decide)).trans P;have f : aN (An a [16, 17, 18, 19, 20, 21, 22, 23, 7] v).eval Qk = aN (aW ⟨#[undef], []⟩) ⟨aF 0, .move (.const (aB (aF ⟨g, 0, aC⟩) (n + 1) wc)), 0, "", #[], aC⟩ := by simp only[aN, Ae, Qk, F]
  refine BJ.mk ?_;unfold aX;rw[f];clear f;go_simp;exact l.out _ _ (Ye.next (W:=W) b 0 (aB (aF ⟨g,0,aC⟩) (n+1) wc) (Av 0 m rfl) (fun _ _ _ h=>h) rfl d (by simpa [BN] using p) (by simpa [BN] using r) (by simpa [BN] using s))
 case o1 =>
  rintro u L _ W t k ⟨v,rfl,b,d,p,r,s⟩ K l;have ai:(An a [16,17,18,19,20,21,22,23,7] v).eval (.tmp 16)=_:=(Ao 0 m rfl (by omega)).trans (b 0 (k 0 (by simp)));have f : aN (An a [16, 17, 18, 19, 20, 21, 22, 23, 7] v).eval Ql = aN (aW ⟨#[undef], []⟩) ⟨aF 0, .indexAddr 52 (.const (aB (aF ⟨g, 0, aC⟩) (n + 1) wc)) (.const (.int .i64 0)), 0, "", #[], aC⟩ := by simp only[aN, Ae, Ql, ai]
  refine BJ.mk ?_;unfold aX;rw[f];clear f;go_simp;exact l.out _ _ (Ye.next (W:=W) b 1 (aT (aF ⟨g,0,aC⟩)) (Av 1 m rfl) (fun _ _ _ h=>h) rfl d (by simpa [BN] using p) (by simpa [BN] using r) (by simpa [BN] using s))
 case o2 =>
  rintro u L _ W t k ⟨v,rfl,b,d,p,r,s⟩ K l;have aj:(An a [16,17,18,19,20,21,22,23,7] v).eval (.tmp 17)=_:=(Ao 1 m rfl (by omega)).trans (b 1 (k 1 (by simp)));have bh:=(d.cell (aD _ _ O)).trans O;have f : aN (An a [16, 17, 18, 19, 20, 21, 22, 23, 7] v).eval Qm = aN (aW ⟨#[undef], []⟩) ⟨aF 0, .load 9 (.const (aT (aF ⟨g, 0, aC⟩))), 0, "", #[], aC⟩ := by simp only[aN, Ae, Qm, aj]
  refine BJ.mk ?_;unfold aX;rw[f];clear f;go_simp;exact l.out _ _ (Ye.next (W:=W) b 2 (aA key) (Av 2 m rfl) (fun _ _ _ h=>h) rfl d (by simpa [BN] using p) (by simpa [BN] using r) (by simpa [BN] using s))
 case o3 =>
  rintro u L _ W t k ⟨v,rfl,b,d,p,r,s⟩ K l;have z:=(aM W.heap.size W).alloc (aL _) (aH #[] 9);have S:L 6=false:=by
   cases e:L 6
   ·rfl
   ·have:=r e;rw[t]at this;cases this
  have G:L 7=false:=by
   cases e:L 7
   ·rfl
   ·have:=s e;rw[S]at this;cases this
  have H:=cK (base:=W0.heap.size) (e:=9) (size:=1) W #[] 0 d.size (by decide) rfl;have f : aN (An a [16, 17, 18, 19, 20, 21, 22, 23, 7] v).eval Vb = aN (aW ⟨#[undef], []⟩) ⟨aF 0, .buildSlice 52 0 #[], 0, "", #[], aC⟩ := by kernel_rfl
  refine BJ.mk ?_;unfold aX;rw[f];clear f;go_simp;exact l.out _ _ (Ye.next (W:=W) b 3 (aB (aF ⟨W.heap.size,0,aC⟩) 0 0) (Av 3 m rfl) (fun j y _ h=>Xv.af z j y h) ⟨_,rfl⟩ (d.trans (z.mono d.size)) (fun _ _=>H) (fun h=>by simp[BN,S]at h) (fun h=>by simp[BN,G]at h))
 case o4 =>
  rintro u L _ W t k ⟨v,rfl,b,d,p,r,s⟩ K l;have F:=(A6 (v:=v) (show 1 ∉ ([16,17,18,19,20,21,22,23,7]:List Nat) by decide)).trans P;have f : aN (An a [16, 17, 18, 19, 20, 21, 22, 23, 7] v).eval Qn = aN (aW ⟨#[undef], []⟩) ⟨aF 0, .move (.const (aB (aF ⟨g, 0, aC⟩) (n + 1) wc)), 0, "", #[], aC⟩ := by simp only[aN, Ae, Qn, F]
  refine BJ.mk ?_;unfold aX;rw[f];clear f;go_simp;exact l.out _ _ (Ye.next (W:=W) b 4 (aB (aF ⟨g,0,aC⟩) (n+1) wc) (Av 4 m rfl) (fun _ _ _ h=>h) rfl d (by simpa [BN] using p) (by simpa [BN] using r) (by simpa [BN] using s))
 case o5 =>
  rintro u L _ W t k ⟨v,rfl,b,d,p,r,s⟩ K l;have ak:(An a [16,17,18,19,20,21,22,23,7] v).eval (.tmp 20)=_:=(Ao 4 m rfl (by omega)).trans (b 4 (k 4 (by simp)));have f : aN (An a [16, 17, 18, 19, 20, 21, 22, 23, 7] v).eval Qo = aN (aW ⟨#[undef], []⟩) ⟨aF 0, .slice 52 (.const (aB (aF ⟨g, 0, aC⟩) (n + 1) wc)) (aF (.const (.int .i64 1))) aC aC, 0, "", #[], aC⟩ := by simp only[aN, Ae, Qo, ak, bU, cP]
  refine BJ.mk ?_;unfold aX;rw[f];clear f;go_simp;exact l.out _ _ (Ye.next (W:=W) b 5 (aB ta n (wc-1)) (Av 5 m rfl) (fun _ _ _ h=>h) rfl d (by simpa [BN] using p) (by simpa [BN] using r) (by simpa [BN] using s))
 case o6 =>
  rintro u L _ W t k ⟨v,rfl,b,d,p,r,s⟩ K l;obtain⟨h,T⟩:=b 3 (k 3 (by simp));have A:=p (k 3 (by simp)) t;rw[T]at A;have G:L 7=false:=by
   cases e:L 7
   ·rfl
   ·have:=s e;rw[t]at this;cases this
  have al:(An a [16,17,18,19,20,21,22,23,7] v).eval (.tmp 19)=_:=(Ao 3 m rfl (by omega)).trans T;have am:(An a [16,17,18,19,20,21,22,23,7] v).eval (.tmp 21)=_:=(Ao 5 m rfl (by omega)).trans (b 5 (k 5 (by simp)));refine BJ.mk ?_;exact En (.tmp 19) (.tmp 21) 52 rfl W0.heap.size 9 ac (aA ⟨#[]⟩) 1 16 underlying52 ad ae af ag rfl (by decide) _ 0 [] al A _ n ws am (Z.V d) aa (by unfold cW;omega) (by omega) d.size (fun ao c an U V bi=>by
   rw[cG,List.nil_append]at U;rw[cG];have bj:W0.heap.size<=h:=(A.lt h rfl).1;have ap:Below W0.heap.size W0 an:=d.grown V d.size (fun q aq=>(A.lt q aq).1);have I:∃B,W.heap[h]?=aF (aH B 9 (0,0)):=by
    rcases A.2 with ⟨e,_⟩|⟨ar,au,B,e,_,J,_⟩
    ·cases e
    ·cases e;exact⟨B,J⟩
   obtain⟨B,I⟩:=I;refine l.out _ _ (Ye.next (W:=W) b 6 (aB ao n c) (Av 6 m rfl) (fun j y D M=>?_) ⟨ao,c,rfl,U⟩ ap (fun _ h=>by simp[BN]at h) (fun _=>by simp[BN,k 3 (by simp)]) (fun h=>by simp[BN]));have av:j≠6:=fun e=>by rw[e,t]at D;cases D
   have aw:j≠7:=fun e=>by rw[e,G]at D;cases D
   unfold Xv at *;split <;> simp only at M⊢
   all_goals first
    | exact M
    | exact absurd rfl av
    | exact absurd rfl aw
    | (obtain⟨R,e,w,H⟩:=M;exact⟨R,e,(V.block R (aK.1 w).1 (fun C=>by cases C;rw[I]at w;simp at w)).trans w,H⟩))
 case o7 =>
  rintro u L _ W t k ⟨v,rfl,b,d,p,r,s⟩ K l;obtain⟨ao,c,ax,E⟩:=b 6 (k 6 (by simp));have ay:(An a [16,17,18,19,20,21,22,23,7] v).eval (.tmp 18)=_:=(Ao 2 m rfl (by omega)).trans (b 2 (k 2 (by simp)));have az:(An a [16,17,18,19,20,21,22,23,7] v).eval (.tmp 22)=_:=(Ao 6 m rfl (by omega)).trans ax;have a0:=k 6 (by simp);have f : aN (An a [16, 17, 18, 19, 20, 21, 22, 23, 7] v).eval Qp = aN (aW ⟨#[undef], []⟩) ⟨aF 0, .build 115 #[(0, .const (aA key)), (1, .const (aB ao n c))], 0, "", #[], aC⟩ := by simp only[aN, Ae, Qp, ay, az, cS, cB, cY]
  refine BJ.mk ?_;unfold aX;rw[f];clear f;go_simp;exact l.out _ _ (Ye.next (W:=W) b 7 (aU #[aA key,aB ao n c]) (Av 7 m rfl) (fun _ _ _ h=>h) ⟨ao,c,rfl,E⟩ d (by simpa [BN] using p) (by simpa [BN] using r) (fun _=>by simp[BN,a0]))
 case o8 =>
  rintro u L _ W t k ⟨v,rfl,b,d,p,r,s⟩ K l;have z:=(aM W.heap.size W).alloc (aL _) (aH #[aA ⟨#[]⟩,aB aC 0 0] 115);have f : aN (An a [16, 17, 18, 19, 20, 21, 22, 23, 7] v).eval Vc = aN (aW ⟨#[undef], []⟩) ⟨aF 0, .alloc 115, 0, "", #[], aC⟩ := by kernel_rfl
  refine BJ.mk ?_;unfold aX;rw[f];clear f;go_simp;exact l.out _ _ (Ye.next (W:=W) b 8 (aT (aF ⟨W.heap.size,0,aC⟩)) (Av 8 m rfl) (fun j y _ h=>Xv.af z j y h) ⟨W.heap.size,rfl,Ai _ _,d.size⟩ (d.trans (z.mono d.size)) (fun a1 a2=>AI (p (by simpa [BN] using a1) (by simpa [BN] using a2)) z) (by simpa [BN] using r) (by simpa [BN] using s))
 case o9 =>
  rintro u L _ W t k ⟨v,rfl,b,d,p,r,s⟩ K l;obtain⟨R,X,x,w⟩:=b 8 (k 8 (by simp));obtain⟨ao,c,a3,E⟩:=b 7 (k 7 (by simp));have a4:(An a [16,17,18,19,20,21,22,23,7] v).eval (.tmp 7)=_:=(Ao 8 m rfl (by omega)).trans X;have a5:(An a [16,17,18,19,20,21,22,23,7] v).eval (.tmp 23)=_:=(Ao 7 m rfl (by omega)).trans a3;have a6:=Aa x 0;have a7:=Aa x 1;simp only[aG,aE,aI]at a6 a7;have bk:=Ac x 0;have bl:=Ac x 1;have N:(W.setCell ⟨R,0,aC⟩ (aA key)).heap[R]?=aF (aH #[aA key,aB aC 0 0] 115 (0,0)):=by rw[aR W R 0 _ _ _ x];rfl
  have a8:=Ab (show ((W.setCell ⟨R,0,aC⟩ (aA key)).setCell ⟨R,1,aC⟩ (aB ao n c)).heap[R]?=aF (aH #[aA key,aB ao n c] 115 (0,0)) from by
   rw[aR _ R 1 _ _ _ N];rfl)
  have Y:(bB ao n c).ownBlock≠aF R:=fun e=>by
   rcases E.2 with ⟨C,_⟩|⟨ar,au,B,C,_,J,_⟩
   ·cases C;cases e
   ·cases C;cases e;rw[J]at x;simp at x
  have a9:=Ab (show ((W.setCell ⟨R,0,aC⟩ (aA key)).setCell ⟨R,1,aC⟩ (aB ao n c)).ownsRow W0.heap.size 9 1 (aB ao n c) n ws from by
   rw[cX W R 0 _ _ _ _ x]at N⊢;rw[cX _ R 1 _ _ _ _ N];exact I3 (I3 E R Y _) R Y _)
  have ba:=Ab (Ad (Ad d ⟨R,0,aC⟩ w (aA key)) ⟨R,1,aC⟩ w (aB ao n c));have f : aN (An a [16, 17, 18, 19, 20, 21, 22, 23, 7] v).eval Qq = aN (aW ⟨#[undef], []⟩) ⟨aF 0, .store 115 (.const (aT (aF ⟨R, 0, aC⟩))) (.const (aU #[aA key, aB ao n c])), 0, "", #[], aC⟩ := by simp only[aN, Ae, Qq, a4, a5]
  refine BJ.mk ?_;unfold aX;rw[f];clear f;go_simp;exact l.out _ _ (bG (ab v _ R _ ao c rfl X w ba.out a8.out a9.out))
variable {R:List Plain}{es:List PLine}{nl c:Nat}{bk bn:ByteArray}{ao:Option Addr}
theorem FV{a:PLine}:es.any (fun o=>o.key.toList==a.key.toList&&(!Cx R a.key || decide (o.ws=a.ws)))=true↔0<sameN es a\/(0<keyN es a.key/\Cx R a.key=false):=by
 unfold sameN keyN;rw[bW,cJ,cJ];constructor
 ·rintro⟨o,b,h⟩;rw[cU,Bool.or_eq_true]at h;obtain⟨h1,c|c⟩:=h
  ·exact .inr ⟨⟨o,b,h1⟩,by simpa using c⟩
  ·exact .inl ⟨o,b,by rw[h1,c];rfl⟩
 ·rintro(⟨o,b,h⟩|⟨⟨o,b,h⟩,c⟩)
  ·rw[cU]at h;exact⟨o,b,by rw[h.1,h.2];simp⟩
  ·exact⟨o,b,by rw[h,c];rfl⟩
theorem Cg(W:World)(b o:Nat)(v:Value):W.grownBy (W.setCell ⟨b,o,aC⟩ v) (aF b):=by
 refine⟨rfl,rfl,rfl,by simp,fun k _ a=>?_⟩;have:b≠k:=fun e=>a (by rw[e])
 simp[World.setCell,Array.getElem?_modify,this]
structure InJ(w:World)(R nl:Nat)(va:Option Addr)(vc:Nat)(bk bn:ByteArray)(bl:List LAt)(key:ByteArray)(ao:Option Addr)(nx c:Nat)(xs:List (List UInt8))(W:World):Prop where
 bw:Below w.heap.size w W
 sz:w.heap.size+2<=W.heap.size
 res:W.heap[w.heap.size+1]?=aF (aH #[aA ⟨#[]⟩,aA ⟨#[]⟩,aB aC 0 0] 46 (0,0))
 box:W.heap[w.heap.size]?=aF (aH #[aA bk,aA bn,aB va nl vc] 46 (0,0))
 ai:W.heap[R]?=aF (aH #[aA key,aB ao nx c] 115 (0,0))
 hb:Bf W ⟨bk,bn,aB va nl vc,bl⟩
 hx:Am W (aB ao nx c) nx 1 (strs xs)
theorem InJ.V{R:Nat}{va:Option Addr}{b:Nat}{d:List LAt}{key:ByteArray}{e:Nat}{xs:List (List UInt8)}(h:InJ w R nl va b bk bn d key ao e c xs W)(a:Below W.heap.size W W'):InJ w R nl va b bk bn d key ao e c xs W' :=
 ⟨h.bw.trans (a.mono h.bw.size),bI h.sz a.size,(a.block _ (aK.1 h.res).1).trans h.res,(a.block _ (aK.1 h.box).1).trans h.box,(a.block _ (aK.1 h.ai).1).trans h.ai,h.hb.V a,h.hx.V a⟩
def MW(b:BAt)(x:List UInt8)(xs:List (List UInt8))(w:World)(e:bZ)(w':World):Prop:=Below w.heap.size w w'/\((lineFault (rulesOf b.aa) (b.ls.map LAt.I) ⟨Az x,xs⟩≠0/\e=aJ (aO #[aU #[aA b.aa,aA b.name,b.v],.int .i64 (lineFault (rulesOf b.aa) (b.ls.map LAt.I) ⟨Az x,xs⟩)]))\/(lineFault (rulesOf b.aa) (b.ls.map LAt.I) ⟨Az x,xs⟩=0/\∃a n c ls',e=aJ (aO #[aU #[aA b.aa,aA b.name,aB a n c],.int .i64 0])/\ls'.map LAt.I=Ca (lineLt (rulesOf b.aa)) ⟨Az x,xs⟩ (b.ls.map LAt.I)/\ls'.length=b.ls.length+1/\Ap w' (aB a n c) ls'/\∀q,q<w.heap.size->Aw q b.v b.ls->Aw q (aB a n c) ls'))
theorem Qr{b:BAt}{x:List UInt8}{xs:List (List UInt8)}(ae:Bf w b)(af:Aj b.ls)(ag:Am w (aB (aF ⟨g,0,aC⟩) (xs.length+1) wc) (xs.length+1) 1 (strs (x::xs)))(bb:∀y∈x::xs,y.length<=200)(ec:xs.length<=7):Calls prog 83 #[aU #[aA b.aa,aA b.name,b.v],aB (aF ⟨g,0,aC⟩) (xs.length+1) wc] w fun e w'=>MW b x xs w e w':=by
 obtain⟨va,j,ev⟩:=ae.1.ad;obtain⟨bk,bn,bv,a⟩:=b;simp only at ev af;subst ev;obtain⟨ta,bc⟩:∃ta,(if wc=1 then aF ⟨g,0,aC⟩ else aF ⟨g,1,aC⟩:Option Addr)=ta:=⟨_,rfl⟩;have ci:=MV bc ag;have dh:=ag.cap;obtain⟨ed,ee,di,k0⟩:=ag.word 0 (by simp);cases di
 simp only[bE,bT]at k0;have b0:=((aM w.heap.size w).alloc (aL _) (aH #[aA bk,aA bn,aB va a.length j] 46)).alloc (by simp) (aH #[aA ⟨#[]⟩,aA ⟨#[]⟩,aB aC 0 0] 46);have bd:((w.alloc (aH #[aA bk,aA bn,aB va a.length j] 46)).alloc (aH #[aA ⟨#[]⟩,aA ⟨#[]⟩,aB aC 0 0] 46)).heap[w.heap.size]?=aF (aH #[aA bk,aA bn,aB va a.length j] 46 (0,0)):=by
  rw[((aM (w.alloc (aH #[aA bk,aA bn,aB va a.length j] 46)).heap.size (w.alloc (aH #[aA bk,aA bn,aB va a.length j] 46))).alloc (aL _) _).block w.heap.size (by simp)];exact Ai w _
 have z0:((w.alloc (aH #[aA bk,aA bn,aB va a.length j] 46)).alloc (aH #[aA ⟨#[]⟩,aA ⟨#[]⟩,aB aC 0 0] 46)).heap[w.heap.size+1]?=aF (aH #[aA ⟨#[]⟩,aA ⟨#[]⟩,aB aC 0 0] 46 (0,0)):=by
  have:=Ai (w.alloc (aH #[aA bk,aA bn,aB va a.length j] 46)) (aH #[aA ⟨#[]⟩,aA ⟨#[]⟩,aB aC 0 0] 46);rw[aS]at this;exact this
 have ef:((w.alloc (aH #[aA bk,aA bn,aB va a.length j] 46)).alloc (aH #[aA ⟨#[]⟩,aA ⟨#[]⟩,aB aC 0 0] 46)).heap.size=w.heap.size+2:=by simp
 have cj:=ae.V b0;have ck:=ci.V b0;have i0:=(b0.cell (aD _ _ k0)).trans k0;have be:=Aa bd 0;simp only[aG,aE]at be;have eg:(Az x).size<=1048576:=by
  have:=bb x (by simp);show x.toArray.size<=1048576
  rw[bR];omega
 have cl:=Ab (show ∀q,w.heap.size<=q->Aw q (aB va a.length j) a from fun q ah=>Ap.fresh ae ah);have dj:=Ab (show ∀y∈xs,y.length<=1048576 from fun y dk=>by have:=bb y (cI _ dk);omega);have I:=Ab (show ∀(ai:Int) W,Below w.heap.size w W->ai≠0->lineFault (rulesOf bk) (a.map LAt.I) ⟨Az x,xs⟩=ai->MW ⟨bk,bn,aB va a.length j,a⟩ x xs w (aJ (aO #[aU #[aA bk,aA bn,aB va a.length j],.int .i64 ai])) W from fun ai W dl dm dn=>⟨dl,.inl (by simp only;rw[dn];exact⟨dm,rfl⟩)⟩);generalize cm:(w.alloc (aH #[aA bk,aA bn,aB va a.length j] 46)).alloc (aH #[aA ⟨#[]⟩,aA ⟨#[]⟩,aB aC 0 0] 46)=w1 at *;have bf:=Ab b0;have cn:=Ab cj;have co:=Ab ck;have cp:=Ab bd;have cq:=Ab z0;have bg:=Ab af;have cr:=Ab cm;have bh:∀p:Gr w1,Calls prog 90 #[aA bk,aA ⟨x.toArray⟩] p.u fun e w'=>e=aJ (.int .i64 (placeI (rulesOf bk) (Az x)))/\Below p.u.heap.size p.u w':=fun p=>Fu bk (Az x) p.u
 have dp:=fun p:Gr w1=>Aq i0 p
 have u1:=fun p:Gr w1=>Aq be p
 obtain⟨aj,bi⟩:∃aj,placeI (rulesOf bk) (Az x)=aj:=⟨_,rfl⟩;rw[bi]at bh;have bj:=Ab bi;have eh:a.length<=1048576:=af.1;clear ae ag bb k0 bd z0 b0 cj ck af ci cm bi;generalize cs:a.length=nl at *;generalize ct:xs.length=A at *;have ei:=Ab cs;have r:=Ab ct;clear cs ct;go_enter func83,ntmps83;go_upto_region 1 with fail
 (try rw[cr.out])
 refine A5 (by kernel_rfl) (by kernel_rfl) ?_;iterate 5 quiet_step (fail)
 quiet_step ((go_at_call 90;refine CD (bh _)))
 quiet_step (fail)
 refine bH ?_;rintro _ ⟨⟨ej,t⟩,rfl⟩;have bl:=bf.out.trans (t.mono bf.out.size);have bm:=(t.block (w.heap.size+1) (by omega)).trans cq.out;have bo:=(t.block w.heap.size (by omega)).trans cp.out;have cu:=(t.cell (aD _ _ i0)).trans i0;have cv:=Ab (cn.out.V t);have cw:=co.out.V t;have ek:=t.size;clear bh dp u1 i0 be cn co cp cq bf t cr;go_upto_region 2 with fail
 refine Zq bc cu dh.1 cw (M8 xs) (by omega) (by kernel_rfl) (by kernel_rfl) ?_;intro v a' R w2 ao c cx dq el D cy bp;simp only[An,CY,bJ,bO,bP,dq]at cx;subst cx;have l:=Ab (show InJ w R nl va j bk bn a ⟨x.toArray⟩ ao A c xs w2 from⟨bl.trans (D.mono bl.size),by have:=D.size;omega,(D.block _ (aK.1 bm).1).trans bm,(D.block _ (aK.1 bo).1).trans bo,cy,cv.out.V D,AF bp⟩);have ak:=Ab (show ∀q,q<w.heap.size+2->Bx q (aB ao A c) A from fun q ah=>Bx.above bp (by omega));clear bp cy bo bm D bl cw cv bc cu;have al:=Aa (l.out).res 0;have am:=Aa (l.out).res 1;have an:=Aa (l.out).res 2;have cz:=Ac (l.out).res 0;have c0:=Ac (l.out).res 1;have c1:=Ac (l.out).res 2;have bq:=Aa (l.out).box 0;have br:=Aa (l.out).box 1;have bs:=Aa (l.out).box 2;have bt:=Aa (l.out).ai 0;have bu:=Aa (l.out).ai 1;simp only[aG,aE,aI]at al am an bq br bs bt bu;cases B:Bv (rulesOf bk) (Az x) with
 | none =>
  have bw:aj=-1:=by rw[<-bj.out];exact Mt B
  have u:=Ab B;subst bw;clear B;go_wp2;exact aQ (v:=aO #[aU #[aA bk,aA bn,aB va nl j],.int .i64 5]) (by simp[aZ,results83,go_sem,al,am,an]) rfl (I.out 5 _ (Ad (Ad (Ad (l.out).bw ⟨w.heap.size+1,0,aC⟩ (by simp only;omega) _) ⟨w.heap.size+1,1,aC⟩ (by simp only;omega) _) ⟨w.heap.size+1,2,aC⟩ (by simp only;omega) _) (by decide) (by unfold lineFault;rw[if_pos u.out]))
 | some p =>
  obtain⟨P,c2,c3⟩:=VV B;have bw:aj=(P:Int):=by rw[<-bj.out];exact c2
  have u:=Ab (show ¬Bv (rulesOf bk) (Az x)=aC by rw[B];simp);have c4:=Ab (show Cx (rulesOf bk) (Az x)=p.2.2.1 by unfold Cx;rw[B]);subst bw;have J:=Jh bk (Az x) l.out.hx (by omega) dj.out;clear B c2 bj;generalize c6:BQ (rulesOf bk) (Az x) xs=dr at J;have E:=Ab c6;clear c6;cases dr with
  | false =>
   go_wp2_with (go_at_call 120;refine J.mono ?_)
   rintro e w3 ⟨rfl,bx⟩;have f:=Ab (l.out.V bx);clear al am an cz c0 c1 bq br bs bt bu J;have K:=Aa (f.out).res 0;have L:=Aa (f.out).res 1;have M:=Aa (f.out).res 2;have c7:=Ac (f.out).res 0;have c8:=Ac (f.out).res 1;have c9:=Ac (f.out).res 2;have ap:=Aa (f.out).box 0;have aq:=Aa (f.out).box 1;have ar:=Aa (f.out).box 2;have au:=Aa (f.out).ai 0;have aw:=Aa (f.out).ai 1;simp only[aG,aE,aI]at K L M ap aq ar au aw;go_wp2;exact aQ (v:=aO #[aU #[aA bk,aA bn,aB va nl j],.int .i64 7]) (by simp[aZ,results83,go_sem,K,L,M]) rfl (I.out 7 _ (Ad (Ad (Ad (f.out).bw ⟨w.heap.size+1,0,aC⟩ (by simp only;omega) _) ⟨w.heap.size+1,1,aC⟩ (by simp only;omega) _) ⟨w.heap.size+1,2,aC⟩ (by simp only;omega) _) (by decide) (by unfold lineFault;rw[if_neg u.out,if_pos E.out]))
  | true =>
   go_wp2_with (go_at_call 120;refine J.mono ?_)
   rintro e w3 ⟨rfl,bx⟩;have f:=Ab (l.out.V bx);have ax:=OH (b:=⟨bk,bn,aB va nl j,a⟩) (x:=⟨Az x,aB ao A c,xs⟩) f.out.hb bg.out (show Am _ _ _ _ _ by simp only;rw[r.out];exact f.out.hx) (by simp only;rw[r.out];omega);clear al am an cz c0 c1 bq br bs bt bu J;have K:=Aa (f.out).res 0;have L:=Aa (f.out).res 1;have M:=Aa (f.out).res 2;have c7:=Ac (f.out).res 0;have c8:=Ac (f.out).res 1;have c9:=Ac (f.out).res 2;have ap:=Aa (f.out).box 0;have aq:=Aa (f.out).box 1;have ar:=Aa (f.out).box 2;have au:=Aa (f.out).ai 0;have aw:=Aa (f.out).ai 1;simp only[aG,aE,aI]at K L M ap aq ar au aw;generalize da:keyN (a.map LAt.I) (Az x)=z at ax;generalize db:sameN (a.map LAt.I) (LAt.I ⟨Az x,aB ao A c,xs⟩)=ay at ax;have N:=Ab da;have bz:=Ab (show sameN (a.map LAt.I) ⟨Az x,xs⟩=ay from db);clear da db;go_wp2_with (go_at_call 155;refine ax.mono ?_)
   rintro e em ⟨rfl,ds⟩;have k:=Ab (f.out.V ds);clear ax K L M c7 c8 c9 ap aq ar au aw;have O:=Aa (k.out).res 0;have Q:=Aa (k.out).res 1;have S:=Aa (k.out).res 2;have b1:=Ac (k.out).res 0;have b2:=Ac (k.out).res 1;have b3:=Ac (k.out).res 2;have az:=Aa (k.out).box 0;have a0:=Aa (k.out).box 1;have a1:=Aa (k.out).box 2;have a2:=Aa (k.out).ai 0;have a3:=Aa (k.out).ai 1;simp only[aG,aE,aI]at O Q S az a0 a1 a2 a3;by_cases b4:0<ay
   ·have dt:(0:Int)<(ay:Int):=by omega
    go_wp2;exact aQ (v:=aO #[aU #[aA bk,aA bn,aB va nl j],.int .i64 6]) (by simp[aZ,results83,go_sem,O,Q,S]) rfl (I.out 6 _ (Ad (Ad (Ad (k.out).bw ⟨w.heap.size+1,0,aC⟩ (by simp only;omega) _) ⟨w.heap.size+1,1,aC⟩ (by simp only;omega) _) ⟨w.heap.size+1,2,aC⟩ (by simp only;omega) _) (by decide) (by unfold lineFault;rw[if_neg u.out,if_neg (by rw[E.out];simp),if_pos (FV.2 (.inl (by rw[bz.out];exact b4)))]))
   ·have dt:¬(0:Int)<(ay:Int):=by omega
    by_cases dc:0<z
    ·have du:(0:Int)<(z:Int):=by omega
     cases a4:p.2.2.1 with
     | false =>
      have b5:=Ab (show Cx (rulesOf bk) (Az x)=false by rw[c4.out,a4]);go_wp2_with (go_at_call 56;refine(c3 _).mono ?_)
      rintro e dv ⟨dw,dx,c5,dy,av,dz,d0,d1,d2,rfl,⟨d4,d5⟩,⟨d6,d7,b6,d3⟩,b7,b8⟩;rw[a4]at b6;have d:=Ab (k.out.V b8);clear b7 O Q S b1 b2 b3 az a0 a1 a2 a3;have F:=Aa (d.out).res 0;have G:=Aa (d.out).res 1;have H:=Aa (d.out).res 2;have dd:=Ac (d.out).res 0;have de:=Ac (d.out).res 1;have df:=Ac (d.out).res 2;have a5:=Aa (d.out).box 0;have a6:=Aa (d.out).box 1;have a7:=Aa (d.out).box 2;have a8:=Aa (d.out).ai 0;have a9:=Aa (d.out).ai 1;simp only[aG,aE,aI]at F G H a5 a6 a7 a8 a9;go_wp2;exact aQ (v:=aO #[aU #[aA bk,aA bn,aB va nl j],.int .i64 6]) (by simp[aZ,results83,go_sem,F,G,H]) rfl (I.out 6 _ (Ad (Ad (Ad (d.out).bw ⟨w.heap.size+1,0,aC⟩ (by simp only;omega) _) ⟨w.heap.size+1,1,aC⟩ (by simp only;omega) _) ⟨w.heap.size+1,2,aC⟩ (by simp only;omega) _) (by decide) (by unfold lineFault;rw[if_neg u.out,if_neg (by rw[E.out];simp),if_pos (FV.2 (.inr ⟨by rw[N.out];exact dc,b5.out⟩))]))
     | true =>
      have b5:=Ab (show Cx (rulesOf bk) (Az x)=true by rw[c4.out,a4]);go_wp2_with (go_at_call 56;refine(c3 _).mono ?_)
      rintro e dv ⟨dw,dx,c5,dy,av,dz,d0,d1,d2,rfl,⟨d4,d5⟩,⟨d6,d7,b6,d3⟩,b7,b8⟩;rw[a4]at b6;have d:=Ab (k.out.V b8);clear b7 O Q S b1 b2 b3 az a0 a1 a2 a3;have F:=Aa (d.out).res 0;have G:=Aa (d.out).res 1;have H:=Aa (d.out).res 2;have dd:=Ac (d.out).res 0;have de:=Ac (d.out).res 1;have df:=Ac (d.out).res 2;have a5:=Aa (d.out).box 0;have a6:=Aa (d.out).box 1;have a7:=Aa (d.out).box 2;have a8:=Aa (d.out).ai 0;have a9:=Aa (d.out).ai 1;simp only[aG,aE,aI]at F G H a5 a6 a7 a8 a9;have ba:=Ab (show ¬(0<sameN (a.map LAt.I) ⟨Az x,xs⟩\/(0<keyN (a.map LAt.I) (Az x)/\Cx (rulesOf bk) (Az x)=false)) from fun h=>by
       rcases h with h|h
       ·rw[bz.out]at h;exact b4 h
       ·rw[b5.out]at h;exact absurd h.2 (by decide))
      by_cases T:10<=z
      ·have dg:(10:Int)<=(z:Int):=by omega
       go_wp2;exact aQ (v:=aO #[aU #[aA bk,aA bn,aB va nl j],.int .i64 10]) (by simp[aZ,results83,go_sem,F,G,H]) rfl (I.out 10 _ (Ad (Ad (Ad (d.out).bw ⟨w.heap.size+1,0,aC⟩ (by simp only;omega) _) ⟨w.heap.size+1,1,aC⟩ (by simp only;omega) _) ⟨w.heap.size+1,2,aC⟩ (by simp only;omega) _) (by decide) (by unfold lineFault;rw[if_neg u.out,if_neg (by rw[E.out];simp),if_neg (fun h=>ba.out (FV.1 h)),if_pos (by rw[N.out];exact T)]))
      ·have dg:¬(10:Int)<=(z:Int):=by omega
       have U:=Eo (b:=⟨bk,bn,aB va nl j,a⟩) (x:=⟨Az x,aB ao A c,xs⟩) (d.out).hb bg.out (show Am _ _ _ _ _ by simp only;rw[r.out];exact(d.out).hx) (by simp only;rw[r.out];omega);have d8:=(d.out).sz;go_wp2_with (go_at_call 86;refine U.mono ?_)
       rintro e V ⟨m,n,o,b9,rfl,⟨X,Y,_,Z,C⟩,ca⟩;have i:=Ab ((d.out).V ca);clear U F G H dd de df a5 a6 a7 a8 a9;have aa:=Aa (i.out).res 0;have ab:=Aa (i.out).res 1;have ac:=Aa (i.out).res 2;have d9:=Ac (i.out).res 0;have ea:=Ac (i.out).res 1;have eb:=Ac (i.out).res 2;have cb:=Aa (i.out).box 0;have cc:=Aa (i.out).box 1;have cd:=Aa (i.out).box 2;have ce:=Aa (i.out).ai 0;have cf:=Aa (i.out).ai 1;simp only[aG,aE,aI]at aa ab ac cb cc cd ce cf;have s:=C (w.heap.size+1) (by omega) (cl.out _ (by omega)) (by simp only;rw[r.out];exact ak.out _ (by omega));have ad:=((Z.aj s (Cg V (w.heap.size+1) 0 (aA bk))).aj s (Cg _ (w.heap.size+1) 1 (aA bn))).aj s (Cg _ (w.heap.size+1) 2 (aB m n o));have cg:=Ab (show MW ⟨bk,bn,aB va nl j,a⟩ x xs w (aJ (aO #[aU #[aA bk,aA bn,aB m n o],.int .i64 0])) (((V.setCell ⟨w.heap.size+1,0,aC⟩ (aA bk)).setCell ⟨w.heap.size+1,1,aC⟩ (aA bn)).setCell ⟨w.heap.size+1,2,aC⟩ (aB m n o)) from⟨Ad (Ad (Ad i.out.bw ⟨w.heap.size+1,0,aC⟩ (by simp only;omega) _) ⟨w.heap.size+1,1,aC⟩ (by simp only;omega) _) ⟨w.heap.size+1,2,aC⟩ (by simp only;omega) _,.inr ⟨by unfold lineFault;rw[if_neg u.out,if_neg (by rw[E.out];simp),if_neg (fun h=>ba.out (FV.1 h)),if_neg (by rw[N.out];exact T)],m,n,o,b9,rfl,X,Y,ad,fun q ah ch=>C q (by omega) ch (by simp only;rw[r.out];exact ak.out q (by omega))⟩⟩);clear X Y Z C s ad;go_wp2;exact aQ (v:=aO #[aU #[aA bk,aA bn,aB m n o],.int .i64 0]) (by simp[aZ,results83,go_sem,aa,ab,ac]) rfl cg.out
    ·have du:¬(0:Int)<(z:Int):=by omega
     have ba:=Ab (show ¬(0<sameN (a.map LAt.I) ⟨Az x,xs⟩\/(0<keyN (a.map LAt.I) (Az x)/\Cx (rulesOf bk) (Az x)=false)) from fun h=>by
      rcases h with h|h
      ·rw[bz.out]at h;exact b4 h
      ·rw[N.out]at h;exact dc h.1)
     by_cases T:10<=z
     ·exact absurd T (by omega)
     ·have dg:¬(10:Int)<=(z:Int):=by omega
      have U:=Eo (b:=⟨bk,bn,aB va nl j,a⟩) (x:=⟨Az x,aB ao A c,xs⟩) (k.out).hb bg.out (show Am _ _ _ _ _ by simp only;rw[r.out];exact(k.out).hx) (by simp only;rw[r.out];omega);have d8:=(k.out).sz;go_wp2_with (go_at_call 86;refine U.mono ?_)
      rintro e V ⟨m,n,o,b9,rfl,⟨X,Y,_,Z,C⟩,ca⟩;have i:=Ab ((k.out).V ca);clear U O Q S b1 b2 b3 az a0 a1 a2 a3;have aa:=Aa (i.out).res 0;have ab:=Aa (i.out).res 1;have ac:=Aa (i.out).res 2;have d9:=Ac (i.out).res 0;have ea:=Ac (i.out).res 1;have eb:=Ac (i.out).res 2;have cb:=Aa (i.out).box 0;have cc:=Aa (i.out).box 1;have cd:=Aa (i.out).box 2;have ce:=Aa (i.out).ai 0;have cf:=Aa (i.out).ai 1;simp only[aG,aE,aI]at aa ab ac cb cc cd ce cf;have s:=C (w.heap.size+1) (by omega) (cl.out _ (by omega)) (by simp only;rw[r.out];exact ak.out _ (by omega));have ad:=((Z.aj s (Cg V (w.heap.size+1) 0 (aA bk))).aj s (Cg _ (w.heap.size+1) 1 (aA bn))).aj s (Cg _ (w.heap.size+1) 2 (aB m n o));have cg:=Ab (show MW ⟨bk,bn,aB va nl j,a⟩ x xs w (aJ (aO #[aU #[aA bk,aA bn,aB m n o],.int .i64 0])) (((V.setCell ⟨w.heap.size+1,0,aC⟩ (aA bk)).setCell ⟨w.heap.size+1,1,aC⟩ (aA bn)).setCell ⟨w.heap.size+1,2,aC⟩ (aB m n o)) from⟨Ad (Ad (Ad i.out.bw ⟨w.heap.size+1,0,aC⟩ (by simp only;omega) _) ⟨w.heap.size+1,1,aC⟩ (by simp only;omega) _) ⟨w.heap.size+1,2,aC⟩ (by simp only;omega) _,.inr ⟨by unfold lineFault;rw[if_neg u.out,if_neg (by rw[E.out];simp),if_neg (fun h=>ba.out (FV.1 h)),if_neg (by rw[N.out];exact T)],m,n,o,b9,rfl,X,Y,ad,fun q ah ch=>C q (by omega) ch (by simp only;rw[r.out];exact ak.out q (by omega))⟩⟩);clear X Y Z C s ad;go_wp2;exact aQ (v:=aO #[aU #[aA bk,aA bn,aB m n o],.int .i64 0]) (by simp[aZ,results83,go_sem,aa,ab,ac]) rfl cg.out
variable {S X k:Nat}{op:Option PBlock}{lv:Value}{bs':List BAt}
def PjS(S X:Nat)(done:List PBlock)(W:World):Prop:=∃sa sc bs,W.heap[S]?=aF (aH #[aB sa bs.length sc] 25 (0,0))/\Au W (aB sa bs.length sc) bs/\bs.map BAt.I=AO done/\A7 S (aB sa bs.length sc) bs/\A7 X (aB sa bs.length sc) bs/\∀b∈bs,b.name.size<=1048576/\Aj b.ls
def PjO(S X k:Nat)(o:PBlock)(b:BAt)(W:World):Prop:=b.aa=o.aa/\b.name=o.name/\b.ls.map LAt.I=BG (rulesOf o.aa) o.ac/\Bf W b/\Aw S b.v b.ls/\Aw X b.v b.ls/\Aj b.ls/\b.ls.length<=k/\b.name.size<=1048576
def PjB(S X k:Nat)(op:Option PBlock)(W:World):Prop:=∃(b:BAt) (a:Option Addr) (n c:Nat),b.v=aB a n c/\W.heap[X]?=aF (aH #[aA b.aa,aA b.name,aB a n c] 46 (0,0))/\∀o,op=aF o->PjO S X k o b W
structure PJ(w:World)(S X:Nat)(lv:Value)(ls:List (List UInt8))(k:Nat)(done:List PBlock)(op:Option PBlock)(W:World):Prop where
 bw:Below w.heap.size w W
 r0:W.heap[w.heap.size]?=aF (aH #[aB aC 0 0] 25 (0,0))
 r1:W.heap[w.heap.size+1]?=aF (aH #[.int .i64 0,.int .i64 0] 38 (0,0))
 row:Am W lv ls.length 1 (strs ls)
 fs:Bx S lv ls.length
 fx:Bx X lv ls.length
 sx:w.heap.size+2<=S/\S<X
 sb:PjS S X done W
 bb:PjB S X k op W
theorem PjS.V{done:List PBlock}(h:PjS S X done W)(a:Below W.heap.size W W'):PjS S X done W':=by
 obtain⟨sa,sc,bs,h1,b,c,d,e,f⟩:=h;exact⟨sa,sc,bs,(a.block _ (aK.1 h1).1).trans h1,b.V a,c,d,e,f⟩
theorem PjB.V(h:PjB S X k op W)(d:Below W.heap.size W W'):PjB S X k op W':=by
 obtain⟨b,a,n,c,e,h1,f⟩:=h;refine⟨b,a,n,c,e,(d.block _ (aK.1 h1).1).trans h1,fun o g=>?_⟩;obtain⟨i,j,l,m,p⟩:=f o g;exact⟨i,j,l,Ap.V m d,p⟩
theorem PJ.V{ls:List (List UInt8)}{done:List PBlock}(h:PJ w S X lv ls k done op W)(a:Below W.heap.size W W'):PJ w S X lv ls k done op W' :=
 ⟨h.bw.trans (a.mono h.bw.size),(a.block _ (aK.1 h.r0).1).trans h.r0,(a.block _ (aK.1 h.r1).1).trans h.r1,h.row.V a,h.fs,h.fx,h.sx,h.sb.V a,h.bb.V a⟩
theorem PJ.skip{ls:List (List UInt8)}{done:List PBlock}(h:PJ w S X lv ls k done op W):PJ w S X lv ls (k+1) done op W:=by
 obtain⟨b,a,n,c,e,h1,d⟩:=h.bb;exact⟨h.bw,h.r0,h.r1,h.row,h.fs,h.fx,h.sx,h.sb,b,a,n,c,e,h1,fun o f=>by
  obtain⟨g,i,j,l,m,p,q,s,r⟩:=d o f;exact⟨g,i,j,l,m,p,q,by omega,r⟩⟩
theorem PJ.put{ls:List (List UInt8)}{done:List PBlock}{o:PBlock}(h:PJ w S X lv ls k done (aF o) W){a:Option Addr}(j:bs'.map BAt.I=AO (done++[o]))(l:Au W (aB a bs'.length c) bs')(g:A7 S (aB a bs'.length c) bs')(m:A7 X (aB a bs'.length c) bs')(p:∀b∈bs',b.name.size<=1048576/\Aj b.ls):PJ w S X lv ls (k+1) (done++[o]) aC (W.setCell ⟨S,0,aC⟩ (aB a bs'.length c)):=by
 have d:=Cg W S 0 (aB a bs'.length c);obtain⟨sa,sc,bs,h1,_⟩:=h.sb;obtain⟨b,r,n,s,e,t,_⟩:=h.bb;have y:=h.sx;have z:=h.bw.size;have f:∀q u,W.heap[q]?=aF u->q≠S->(W.setCell ⟨S,0,aC⟩ (aB a bs'.length c)).heap[q]?=aF u:=fun q u i v=>(d.block q (aK.1 i).1 (fun e=>v (by cases e;rfl))).trans i
 refine⟨Ad h.bw ⟨S,0,aC⟩ (by simp only;omega) _,f _ _ h.r0 (by omega),f _ _ h.r1 (by omega),h.row.aj h.fs d,h.fs,h.fx,h.sx,⟨a,c,bs',?_,l.aj g d,j,g,m,p⟩,⟨b,r,n,s,e,f _ _ t (by omega),fun o x=>by cases x⟩⟩;rw[aR W S 0 _ _ _ h1];rfl
theorem PJ.turn{ls:List (List UInt8)}{done:List PBlock}(h:PJ w S X lv ls k done op W){o:PBlock}{b:BAt}{a:Option Addr}(e:b.v=aB a n c)(r:PjO S X (k+1) o b W):PJ w S X lv ls (k+1) done (aF o) (((W.setCell ⟨X,0,aC⟩ (aA b.aa)).setCell ⟨X,1,aC⟩ (aA b.name)).setCell ⟨X,2,aC⟩ (aB a n c)):=by
 have d:=Cg W X 0 (aA b.aa);have f:=Cg (W.setCell ⟨X,0,aC⟩ (aA b.aa)) X 1 (aA b.name);have g3:=Cg ((W.setCell ⟨X,0,aC⟩ (aA b.aa)).setCell ⟨X,1,aC⟩ (aA b.name)) X 2 (aB a n c);obtain⟨sa,sc,bs,h1,s,t,v,g,x⟩:=h.sb;obtain⟨b0,a0,K,c0,_,y,_⟩:=h.bb;have L:=h.sx;have j:∀q u,W.heap[q]?=aF u->q≠X->(((W.setCell ⟨X,0,aC⟩ (aA b.aa)).setCell ⟨X,1,aC⟩ (aA b.name)).setCell ⟨X,2,aC⟩ (aB a n c)).heap[q]?=aF u:=fun q u p z=>by
  have l:=(aK.1 p).1;have m:aF q≠aF X:=fun e=>z (by cases e;rfl)
  rw[g3.block q (cQ l (bI d.size f.size)) m,f.block q (cQ l d.size) m,d.block q l m];exact p
 obtain⟨A,B,C,D,E,i,F,G,H⟩:=r;refine⟨Ad (Ad (Ad h.bw ⟨X,0,aC⟩ (by simp only;omega) _) ⟨X,1,aC⟩ (by simp only;omega) _) ⟨X,2,aC⟩ (by simp only;omega) _,j _ _ h.r0 (by omega),j _ _ h.r1 (by omega),((h.row.aj h.fx d).aj h.fx f).aj h.fx g3,h.fs,h.fx,h.sx,⟨sa,sc,bs,j _ _ h1 (by omega),((s.aj g d).aj g f).aj g g3,t,v,g,x⟩,⟨b,a,n,c,e,?_,fun M I=>?_⟩⟩
 ·have J:=aR W X 0 _ _ (aA b.aa) y;have z2:=aR _ X 1 _ _ (aA b.name) J;rw[aR _ X 2 _ _ _ z2];rfl
 ·cases I
  exact⟨A,B,C,Ap.aj (Ap.aj (Ap.aj D i d) i f) i g3,E,i,F,G,H⟩
