import Derived.Test.YtpdahhnjhggocaaGreatDoorMu13
open Go.Proofs.Tryz
open Go.Value renaming slice->aA,string->aB,tuple->aN,pointer->aR,slice->bA,agg->bG,string->cK
open List renaming getElem?_cons_zero->aC,getElem?_toArray->aD,getElem?_cons_succ->aE,length_map->aI,map_append->aO,mem_singleton->aS,length_nil->aT,mem_cons_of_mem->aV,getElem?_append_right->aW,perm_middle->aX,mem_map->aY,length_cons->aZ,getElem_cons_zero->bE,flatMap_singleton->bF,mem_map_of_mem->bI,flatMap_append->bJ,length_append->bK,getElem?_map->bL,mem_append->bO,setIfInBounds_toArray->bP,mem_cons->bQ,map_cons->bR,getElem?_eq_getElem->bS,length_eq_zero_iff->bT,map_nil->bV,set_cons_zero->cA,set_cons_succ->cB,pairwise_cons->cC,mem_cons_self->cD,map_singleton->cE,size_toArray->cG,take_length->cH,flatMap_nil->cI,cons_append->cJ
open Option renaming none->aF,some->aJ,isNone_some->bY,getD_some->bZ,map_some->cF
open Go.World renaming block_lt_of_cell?->aG,size_alloc->bM
open Go.Ending renaming returned->aH
open Go.Obj renaming cells->aK
open Nat renaming le_refl->aL,le_trans->aP,zero_add->bN,sub_self->bW,add_zero->bX
open Go.RowKit.Below renaming refl->aM
open Array renaming getElem?_eq_some_iff->aQ
open Go.Exit renaming noGoto_ret->aU
open List.Perm renaming cons->bB,swap->bC
open Go.Act renaming eval->bD
open Go.Oper renaming wp->bH
open Option.some renaming inj->bU
open Go.World.ownsRow renaming lt->cL
namespace Go.Proofs.YtpdahhnjhggocaaGreatDoor
open Go.RowKit
set_option maxHeartbeats 16000000
set_option maxRecDepth 100000
variable {m n:Nat}{W W' w:World}
def C4(R:Nat)(rest:ByteArray)(m:Nat)(W:World):Prop:=W.heap[R]?=aJ (aK #[aB rest,.int .i64 (m:Int)] 198 (0,0))
def JH(m:Nat)(a:Int):Value:=.iface 110 (bG #[.int .i64 (m:Int),.int .i64 a])
theorem Gt{R:Nat}{rest:ByteArray}(h:C4 R rest m W)(a:Int):Calls prog 232 #[aR (aJ ⟨R,0,aF⟩),.int .i64 a] W fun e w'=>e=aH (JH m a)/\w'=W:=by
 have b:=Ab h 1;simp only[aD,aC,aE]at b;go_enter func232,ntmps232;go_wp2;go_ret;exact⟨rfl,rfl⟩
def Ii(R n:Nat)(ls:List (List UInt8))(w:World)(e:Ending)(w':World):Prop:=w.grownBy w' (aJ R)/\match DB n ls with
 | .ended m=>e=aH (aN #[aA aF 0 0,.nilIface])/\C4 R ⟨#[]⟩ m w'
 | .bad m=>e=aH (aN #[aA aF 0 0,JH m 1])
 | .words m x xs rest=>∃a c r,e=aH (aN #[aA a (xs.length+1) c,.nilIface])/\A9 r.data.toList=rest/\r.size<=1048576/\C4 R r m w'/\w'.ownsRow w.heap.size 9 1 (aA a (xs.length+1) c) (xs.length+1) (strs (x::xs))
def Xb(R:Nat)(W:World):Nat:=match W.cell? ⟨R,0,aF⟩ with
 | some (aB s)=>s.size
 | _=>0
theorem C4.len{R:Nat}{rest:ByteArray}(h:C4 R rest m W):Xb R W=rest.size:=by
 have c0:=Ab h 0;simp only[aD,aC]at c0;unfold Xb;rw[c0]
def Vx(R n:Nat)(ls:List (List UInt8))(w W:World):Prop:=∃(rest:ByteArray) (m:Nat),C4 R rest (m+1) W/\DB m (A9 rest.data.toList)=DB n ls/\rest.size<=1048576/\m+(A9 rest.data.toList).length=n+ls.length/\w.grownBy W (aJ R)
theorem C4.line{R m':Nat}{rest:ByteArray}(h:C4 R rest m W):C4 R rest m' (W.setCell ⟨R,1,aF⟩ (.int .i64 (m':Int))):=by
 unfold C4 at *;rw[heap_setCell_same W R 1 _ _ _ h];rfl
theorem C4.rest{R:Nat}{rest rest':ByteArray}(h:C4 R rest m W):C4 R rest' m (W.setCell ⟨R,0,aF⟩ (aB rest')):=by
 unfold C4 at *;rw[heap_setCell_same W R 0 _ _ _ h];rfl
theorem C4.V{R:Nat}{rest:ByteArray}(h:C4 R rest m W)(a:Below W.heap.size W W'):C4 R rest m W':=(a.block R (aQ.1 h).1).trans h
theorem Yg{s:ByteArray}(h:s.size=0):s=⟨#[]⟩:=by
 cases s with
 | mk d=>have:d=#[]:=Array.eq_empty_of_size_eq_zero h;rw[this]
theorem Pz{R:Nat}{rest:ByteArray}(h:C4 R rest n w)(J:rest.size<=1048576)(af:n+(A9 rest.data.toList).length<=1000000):Calls prog 186 #[aR (aJ ⟨R,0,aF⟩)] w fun e w'=>Ii R n (A9 rest.data.toList) w e w':=by
 have k:=Ab h 1;have t:=Ad h 1;simp only[aD,aC,aE]at k;have C:=Aa (show Vx R n (A9 rest.data.toList) w (w.setCell ⟨R,1,aF⟩ (.int .i64 ((n+1:Nat):Int))) from⟨rest,n,h.line,rfl,J,rfl,AT w R 1 _⟩);have K:((n+1:Nat):Int)=(n:Int)+1:=by omega
 rw[K]at C;generalize W:A9 rest.data.toList=ls at *;have ag:n<=1000000:=by omega
 clear h J W K;go_enter func186,ntmps186;go_wp2;go_loopw [] (fun wr=>Vx R n ls w wr) (fun wr=>Xb R wr)
 case atStart=>exact C.out
 case round =>
  clear C k t;obtain⟨rs,m,d,s,X,u,z⟩:=hrel;have c0:=Ab d 0;have k:=Ab d 1;have Y:=Ad d 0;have t:=Ad d 1;simp only[aD,aC,aE]at c0 k;by_cases L:rs.size=0
  ·obtain rfl:=Yg L;have i:=Aa (show Ii R n ls w (aH (aN #[aA aF 0 0,.nilIface])) wr from⟨z,by rw[<-s];exact⟨rfl,d⟩⟩);clear d s u z L;go_wp2;go_ret2
   exact i.out
  ·have ah:=Tt rs (by omega);have D:rs.data.toList≠[]:=by
    intro e;have:rs.data.toList.length=rs.size:=by simp
    rw[e]at this;simp at this;omega
   have M:=Vo rs wr X;have N:=Aa d;have Z:=Aa d.len;clear d;go_wp2_with (go_at_call 230;refine M.mono ?_)
   rintro e w2 ⟨x,y,ai,rfl,hcut,E⟩;have F:=hcut.ac D;have aj:=hcut.len;have ak:=hcut.lt D;have al:x.data.toList.length=x.size:=by simp
   have am:y.data.toList.length=y.size:=by simp
   have an:rs.data.toList.length=rs.size:=by simp
   rw[F]at s u;have A:=N.out.V E;have O:=A.rest (rest':=y);have g3:=Ar (Ar z (A2 E (aJ R))) (AT w2 R 0 (aB y));have P:=Ab A 0;have k0:=Ad A 0;simp only[aD,aC]at P;have Q:=OB x (w2.setCell ⟨R,0,aF⟩ (aB y)) (by omega);have aa:=g3.size;have S:=Aa O;have T:=Aa g3;have o:=Aa s;have G:=Aa F;have ao:m<=1000000:=by simp only[aZ]at u;omega
   clear M hcut F A O g3 s N c0 k Y t z E D;go_wp2_with (go_at_call 231;refine Q.mono ?_)
   rintro e c ⟨v,rfl,H,U⟩;obtain⟨f,wc,rfl,_⟩:=Ak H;have p:=S.out.V U;have g4:=Ar T.out (A2 U (aJ R));have l:=Cu H aa;clear Q S T H P k0;cases r:cutL x.data.toList with
   | none =>
    simp only[r,Option.isNone_none,Option.getD_none,aT]at l⊢;have g:=(aM c.heap.size c).alloc (aL _) (aK #[aA f 0 wc,.bool true] 124);have b:=p.V g;have j:=Ar g4 (A2 g (aJ R));have ab:=Gt b 1;have i:=Aa (show Ii R n ls w (aH (aN #[aA aF 0 0,JH (m+1) 1])) (c.alloc (aK #[aA f 0 wc,.bool true] 124)) from⟨j,by rw[<-o.out,XW r]⟩);clear p b g4 j l o G;go_wp2_with (go_at_call 232;refine ab.mono ?_;rintro e ap ⟨rfl,rfl⟩)
    go_ret2
    exact i.out
   | some ac =>
    cases ac with
    | nil =>
     simp only[r,bY,bZ,aT]at l⊢;have g:=(aM c.heap.size c).alloc (aL _) (aK #[aA f 0 wc,.bool false] 124);have b:=p.V g;have j:=Ar g4 (A2 g (aJ R));have k:=Ab b 1;have t:=Ad b 1;simp only[aD,aC,aE]at k;have i:=Aa (show Vx R n ls w ((c.alloc (aK #[aA f 0 wc,.bool false] 124)).setCell ⟨R,1,aF⟩ (.int .i64 ((m+1+1:Nat):Int))) from⟨y,m+1,b.line,by rw[<-o.out,Ti r],by omega,by simp only[aZ]at u;omega,Ar j (AT _ R 1 _)⟩);have I:((m+1+1:Nat):Int)=((m+1:Nat):Int)+1:=by omega
     rw[I]at i;have V:Xb R ((c.alloc (aK #[aA f 0 wc,.bool false] 124)).setCell ⟨R,1,aF⟩ (.int .i64 (((m+1:Nat):Int)+1)))=y.size:=by rw[<-I];exact(b.line (m':=m+1+1)).len
     have ad:=Aa V;clear p b g4 j l o G V I;go_wp2;go_roundw;case rel=>exact i.out
     case measure =>
      have q:=ad.out;rw[show ((m+1:Nat):Int)=(m:Int)+1 by omega]at q;rw[q,Z.out];omega
    | cons a B =>
     simp only[r,bY,bZ,aZ]at l⊢;have g:=(aM c.heap.size c).alloc (aL _) (aK #[aA f (B.length+1) wc,.bool false] 124);have b:=p.V g;have j:=Ar g4 (A2 g (aJ R));have i:=Aa (show Ii R n ls w (aH (aN #[aA f (B.length+1) wc,.nilIface])) (c.alloc (aK #[aA f (B.length+1) wc,.bool false] 124)) from⟨j,by rw[<-o.out,Tk r];exact⟨f,wc,y,rfl,rfl,by omega,b,AL l g⟩⟩);clear p b g4 j l o G;generalize B.length=ae at *;have aq:((ae:Int)+1>0):=by omega
     go_wp2;go_ret2
     exact i.out
variable {v:Value}{bs:List BAt}{wc:Nat}
def Ij(done:List PBlock)(m:Nat)(x:List UInt8)(xs:List (List UInt8))(w:World)(e:Ending)(w':World):Prop:=Below w.heap.size w w'/\(((Cl done aF x xs).1≠0/\e=aH (aN #[bG #[aB ⟨#[]⟩,aB ⟨#[]⟩,aA aF 0 0],JH m (Cl done aF x xs).1]))\/((Cl done aF x xs).1=0/\∃a,xs=[a]/\e=aH (aN #[bG #[aB (Bu x),aB (Bu a),aA aF 0 0],.nilIface])))
theorem Yh{R:Nat}{rest:ByteArray}{G:Option Addr}{x:List UInt8}{xs:List (List UInt8)}(h:C4 R rest m w)(o:As w v bs)(T:bs.length<=1048576)(k:Ap w (aA G (xs.length+1) wc) (xs.length+1) 1 (strs (x::xs)))(l:∀y∈x::xs,y.length<=200)(af:xs.length<=7):Calls prog 187 #[aR (aJ ⟨R,0,aF⟩),v,aA G (xs.length+1) wc] w fun e w'=>Ij (bs.map BAt.I) m x xs w e w':=by
 have b0:=(aM w.heap.size w).alloc (aL _) (aK #[aB ⟨#[]⟩,aB ⟨#[]⟩,aA aF 0 0] 46);have z0:=Al w (aK #[aB ⟨#[]⟩,aB ⟨#[]⟩,aA aF 0 0] 46);obtain⟨va,U,rfl⟩:=o.1.ae;by_cases H:xs.length=1
 ·match xs,H,k,l with
  | [a],_,k,l =>
   obtain⟨g,off,rfl,k0⟩:=k.word 0 (by simp);obtain⟨ag,ah,V,q⟩:=k.word 1 (by simp);cases V
   simp only[bE,List.getElem_cons_succ,bX]at k0 q;have I:=aG _ _ k0;have J:=aG _ _ q;have i0:=(b0.cell I).trans k0;have r:=(b0.cell J).trans q;have K:=h.V b0;have L:=o.V b0;have d:=Ab z0 0;have f:=Ab z0 1;have i:=Ab z0 2;have A:=Ad z0 0;have B:=Ad z0 1;have C:=Ad z0 2;simp only[aD,aC,aE]at d f i;have X:(Bu a).size<=1048576:=by
    have:=l a (by simp);show a.toArray.size<=1048576
    rw[cG];omega
   generalize s:headFault (bs.map BAt.I) (Bu x) (Bu a)=c;have n:∀W,Below w.heap.size w W->(c≠0->Ij (bs.map BAt.I) m x [a] w (aH (aN #[bG #[aB ⟨#[]⟩,aB ⟨#[]⟩,aA aF 0 0],JH m c])) W)/\(c=0->Ij (bs.map BAt.I) m x [a] w (aH (aN #[bG #[aB (Bu x),aB (Bu a),aA aF 0 0],.nilIface])) W):=fun W t=>by
    constructor
    ·intro j;exact⟨t,.inl (by rw[GC,s];exact⟨j,rfl⟩)⟩
    ·intro j;exact⟨t,.inr (by rw[GC,s];exact⟨j,a,rfl,rfl⟩)⟩
   have u:=Aa n;clear n h o k l k0 q I J z0;generalize D:w.alloc (aK #[aB ⟨#[]⟩,aB ⟨#[]⟩,aA aF 0 0] 46)=w1 at *;have Y:=Aa D;have ai:w1.heap.size=w.heap.size+1:=by rw[<-D];simp
   clear D;have M:∀p:Gr w1,Calls prog 66 #[aA va bs.length U,aB ⟨x.toArray⟩,aB ⟨a.toArray⟩] p.u fun e w'=>e=aH (.int .i64 c)/\Below p.u.heap.size p.u w':=fun p=>by
    have:=Gh (Bu x) (Bu a) (L.V p.h) T X;rw[s]at this;exact this
   have Z:=fun p:Gr w1=>A6 i0 p
   have u1:=fun p:Gr w1=>A6 r p
   have aa:=Aa K;have z:=Aa b0;clear L s K b0;generalize bs.length=ab at *;go_enter func187,ntmps187;go_upto_region 3 with fail
   rw[Y.out];refine AQ (by kernel_rfl) (by kernel_rfl) ?_;iterate 7 quiet_step (fail)
   quiet_step ((go_at_call 66;refine DH (M _)))
   quiet_step (fail)
   refine wpQuiet_nil ?_;rintro _ ⟨⟨aj,b⟩,rfl⟩;have N:=z.out.trans (b.mono z.out.size);have E:=aa.out.V b;have ac:=(b.cell (aG _ _ i0)).trans i0;have ad:=(b.cell (aG _ _ r)).trans r;have O:=(b.cell (aG _ _ d)).trans d;have P:=(b.cell (aG _ _ f)).trans f;have Q:=(b.cell (aG _ _ i)).trans i;have t0:=(b.frozen (aG _ _ d)).trans A;have ak:=(b.frozen (aG _ _ f)).trans B;have t2:=(b.frozen (aG _ _ i)).trans C;clear M Z u1 i0 r d f i A B C;by_cases j:c=0
   ·subst j;clear E;go_wp2;go_region
    go_wp2;exact bodyPost_ret (v:=aN #[bG #[aB ⟨x.toArray⟩,aB ⟨a.toArray⟩,aA aF 0 0],.nilIface]) (by simp[results,results187,go_sem,O,P,Q]) rfl ((u.out _ (Below.drew (AP (AP (AP N ⟨w.heap.size,0,aF⟩ (aL _) _) ⟨w.heap.size,1,aF⟩ (aL _) _) ⟨w.heap.size,2,aF⟩ (aL _) _))).2 (by trivial))
   ·have al:(c==0)=false:=by rw[beq_eq_false_iff_ne];exact j
    have F:=Gt E c;clear E ac ad;go_wp2_with (go_at_call 232;refine F.mono ?_;rintro e ae ⟨rfl,rfl⟩)
    exact bodyPost_ret (v:=aN #[bG #[aB ⟨#[]⟩,aB ⟨#[]⟩,aA aF 0 0],JH m c]) (by simp[results,results187,go_sem,O,P,Q]) rfl ((u.out _ (AP (AP (AP N ⟨w.heap.size,0,aF⟩ (aL _) _) ⟨w.heap.size,1,aF⟩ (aL _) _) ⟨w.heap.size,2,aF⟩ (aL _) _)).1 j)
 ·have am:(((xs.length:Int)+1)==2)=false:=by rw[beq_eq_false_iff_ne];omega
  have F:=Gt (h.V b0) 2;have S:=Pb (done:=bs.map BAt.I) (w:=x) H;have d:=Ab z0 0;have f:=Ab z0 1;have i:=Ab z0 2;have A:=Ad z0 0;have B:=Ad z0 1;have C:=Ad z0 2;simp only[aD,aC,aE]at d f i;have n:=fun W (t:Below w.heap.size w W)=>(show Ij (bs.map BAt.I) m x xs w (aH (aN #[bG #[aB ⟨#[]⟩,aB ⟨#[]⟩,aA aF 0 0],JH m 2])) W from⟨t,.inl (by rw[S];exact⟨by simp,rfl⟩)⟩)
  have u:=Aa n;have z:=Aa b0;clear n h o k b0 z0 S l;generalize bs.length=ab at *;generalize xs.length=an at *;go_enter func187,ntmps187;go_wp2_with (go_at_call 232;refine F.mono ?_;rintro e ae ⟨rfl,rfl⟩)
  exact bodyPost_ret (v:=aN #[bG #[aB ⟨#[]⟩,aB ⟨#[]⟩,aA aF 0 0],JH m 2]) (by simp[results,results187,go_sem]) rfl (u.out _ z.out)
variable {A:List PBlock}
theorem P0(B:Nat)(w:World):A5 B w (aA aF 0 0) []:=⟨fun r a=>by rw[aS.1 a];exact World.ownsRow_nil _ _ 115 2,by simp[CE]⟩
theorem Vy{B:List PBlock}{D T:List PBlock}{x:PBlock}(e:A=D++x::T):goneS (A.take (D.length+1)) B=goneS (A.take D.length) B++(if (B.find? (AE x.aa x.name)).isNone=true then [Gd x] else []):=by
 subst e;rw[BG,Bk];unfold goneS;rw[List.filter_append,aO];congr 1;by_cases h:(B.find? (AE x.aa x.name)).isNone=true
 ·rw[if_pos h];simp[h]
 ·rw[if_neg h];simp[h]
def Hv(P:List PChange)(w:World)(e:Ending)(w':World):Prop:=∃v' a,e=aH v'/\a.map Bl.I=P/\(∀c∈a,Ah c.ls)/\a.length<=14000000/\CU w.heap.size w' v' a/\Below w.heap.size w w'
def DC(P:List PBlock)(kind name:ByteArray)(t:Nat):Int:=match P[t]? with
 | some b=>blockCmp b.aa b.name kind name
 | none=>0
def JM(P:List PBlock)(kind name:ByteArray)(i:Nat):Prop:=i<=P.length/\(∀t,t<i->DC P kind name t<0)/\∀t,i<=t->t<P.length->¬DC P kind name t<0
def F9(P:List PBlock)(kind name:ByteArray)(w:World)(e:Ending)(w':World):Prop:=∃(i:Nat) (f:Bool),e=aH (aN #[.int .i64 (i:Int),.bool f])/\JM P kind name i/\(f=true↔i<P.length/\DC P kind name i=0)/\Below w.heap.size w w'
theorem TD(kind name:ByteArray)(H:As w v bs)(an:bs.length<=1048576)(P:∀s t,s<=t->t<bs.length->DC (bs.map BAt.I) kind name t<0->DC (bs.map BAt.I) kind name s<0):Calls prog 176 #[v,bG #[aB kind,aB name,aA aF 0 0],.func (.func 51) #[] #[]] w fun e w'=>F9 (bs.map BAt.I) kind name w e w':=by
 obtain⟨ao,ap,rfl⟩:=H.1.ae;have o:=(aM w.heap.size w).alloc (aL _) (aK #[aB kind,aB name,aA aF 0 0] 46);have ac:=Al w (aK #[aB kind,aB name,aA aF 0 0] 46);have Q:=Aa (H.V o);have R:=Aa P;generalize S:bs.length=n at *;have q:=Aa S;clear H P S;generalize U:w.alloc (aK #[aB kind,aB name,aA aF 0 0] 46)=w1 at *;have V:=Aa U;clear U;go_enter func176,ntmps176;go_wp2;rw[V.out];go_loopw [9,10] (fun I J wr=>∃(i j:Nat),I=.int .i64 (i:Int)/\J=.int .i64 (j:Int)/\i<=j/\j<=n/\Hid (∀t,t<i->DC (bs.map BAt.I) kind name t<0)/\Hid (∀t,j<=t->t<n->¬DC (bs.map BAt.I) kind name t<0)/\Below w1.heap.size w1 wr) (fun I J _=>(intOf J-intOf I).toNat)
 case atStart=>exact⟨0,n,rfl,rfl,by omega,by omega,Aa (fun t h=>by omega),Aa (fun t h K=>by omega),aM _ _⟩
 case round =>
  obtain⟨i,j,rfl,rfl,aq,ad,C,E,a⟩:=hrel;have z0:=(a.block w.heap.size (by rw[<-V.out];simp)).trans ac;have k0:=Ab z0 0;have u:=Ab z0 1;have x:=Ab z0 2;simp only[aD,aC,aE]at k0 u x;by_cases ar:i<j
  ·have ae:((i:Int)<(j:Int)):=by omega
   go_upto_region 5 with fail
   obtain⟨h,af,au,av⟩:∃h:Nat,((i:Int)+(j:Int))/2=(h:Int)/\i<=h/\h<j:=⟨(i+j)/2,by omega,by omega,by omega⟩;rw[af];obtain⟨D,r,T,b,d⟩:=AS bs h (by have:=q.out;omega);have f:=Q.out.V a;have k:=f.1;rw[b]at k;obtain⟨g,off,rfl,c0,l,c2⟩:=k.block;obtain⟨y,z,A⟩:=(f.2 r (by rw[b];simp)).1.ae;rw[A]at c2;rw[d]at c0 l c2;have F:=Aa (show DC (bs.map BAt.I) kind name h=blockCmp r.aa r.name kind name from by
    unfold DC;rw[bL,b,aW (by omega),d,bW];rfl)
   have B:∀p:Gr wr,Calls prog 51 #[bG #[aB r.aa,aB r.name,aA y r.ls.length z],bG #[aB kind,aB name,aA aF 0 0]] p.u fun e w'=>e=aH (.int .i64 (blockCmp r.aa r.name kind name))/\Below p.u.heap.size p.u w':=fun p=>(Dg r.aa r.name kind name r.ls.length 0 z 0 y aF p.u).mono fun e w' h=>⟨h.1,h.2.1⟩
   have L:=fun p:Gr wr=>A6 c0 p
   have u1:=fun p:Gr wr=>A6 l p
   have u2:=fun p:Gr wr=>A6 c2 p
   have v0:=fun p:Gr wr=>A6 k0 p
   have v1:=fun p:Gr wr=>A6 u p
   have v2:=fun p:Gr wr=>A6 x p
   have ag:(0:Int)<=(h:Int):=by omega
   have h1:(h:Int)<(n:Int):=by omega
   clear f k A b d c0 l c2;generalize r.aa=rk at *;generalize r.name=M at *;generalize r.ls.length=ah at *;generalize N:blockCmp rk M kind name=G at *;clear N;refine AQ (by kernel_rfl) (by kernel_rfl) ?_;iterate 6 quiet_step (fail)
   quiet_step ((go_at_call 51;refine DH (B _)))
   quiet_step (fail)
   refine wpQuiet_nil ?_;rintro c ⟨⟨_,m⟩,rfl⟩;have W:=a.trans (m.mono a.size);clear L u1 u2 v0 v1 v2 B k0 u x;by_cases X:G<0
   ·have ai:=Aa (show ∀t,t<h+1->DC (bs.map BAt.I) kind name t<0 from fun t Y=>R.out t h (by omega) (by omega) (by rw[F.out];exact X));go_wp2;go_roundw;case rel=>exact⟨h+1,j,by go_num,rfl,by omega,by omega,ai,E,W⟩
    case measure=>simp[intOf];omega
   ·have aj:=Aa (show ∀t,h<=t->t<n->¬DC (bs.map BAt.I) kind name t<0 from fun t Y ak al=>X (by rw[<-F.out];exact R.out h t Y ak al));go_wp2;go_roundw;case rel=>exact⟨i,h,rfl,rfl,by omega,by omega,C,aj,W⟩
    case measure=>simp[intOf];omega
  ·obtain rfl:i=j:=by omega
   have ae:¬((i:Int)<(i:Int)):=by omega
   have Z:=Aa (show JM (bs.map BAt.I) kind name i from⟨by rw[aI,q.out];exact ad,C.out,fun t h K=>E.out t h (by rw[aI,q.out]at K;exact K)⟩);have aa:=Aa (show (bs.map BAt.I).length=n from by rw[aI];exact q.out);by_cases ab:i<n
   ·obtain⟨D,r,T,b,d⟩:=AS bs i (by have:=q.out;omega);have f:=Q.out.V a;have k:=f.1;rw[b]at k;obtain⟨g,off,rfl,c0,l,c2⟩:=k.block;obtain⟨y,z,A⟩:=(f.2 r (by rw[b];simp)).1.ae;rw[A]at c2;rw[d]at c0 l c2;have F:=Aa (show DC (bs.map BAt.I) kind name i=blockCmp r.aa r.name kind name from by
     unfold DC;rw[bL,b,aW (by omega),d,bW];rfl)
    have B:∀p:Gr wr,Calls prog 51 #[bG #[aB r.aa,aB r.name,aA y r.ls.length z],bG #[aB kind,aB name,aA aF 0 0]] p.u fun e w'=>e=aH (.int .i64 (blockCmp r.aa r.name kind name))/\Below p.u.heap.size p.u w':=fun p=>(Dg r.aa r.name kind name r.ls.length 0 z 0 y aF p.u).mono fun e w' h=>⟨h.1,h.2.1⟩
    have L:=fun p:Gr wr=>A6 c0 p
    have u1:=fun p:Gr wr=>A6 l p
    have u2:=fun p:Gr wr=>A6 c2 p
    have v0:=fun p:Gr wr=>A6 k0 p
    have v1:=fun p:Gr wr=>A6 u p
    have v2:=fun p:Gr wr=>A6 x p
    have ag:(0:Int)<=(i:Int):=by omega
    have h1:(i:Int)<(n:Int):=by omega
    clear f k A b d c0 l c2 C E;generalize r.aa=rk at *;generalize r.name=M at *;generalize r.ls.length=ah at *;generalize N:blockCmp rk M kind name=G at *;clear N;go_upto_region 8 with fail
    refine AQ (by kernel_rfl) (by kernel_rfl) ?_;iterate 11 quiet_step (fail)
    quiet_step ((go_at_call 51;refine DH (B _)))
    iterate 4 quiet_step (fail)
    refine wpQuiet_nil ?_;rintro c ⟨⟨_,m⟩,rfl⟩;have O:=Aa (show F9 (bs.map BAt.I) kind name w (aH (aN #[.int .i64 (i:Int),.bool (G==0)])) c from⟨i,G==0,rfl,Z.out,by rw[aa.out,F.out,beq_iff_eq];exact⟨fun h=>⟨ab,h⟩,fun h=>h.2⟩,o.trans ((a.trans (m.mono a.size)).mono o.size)⟩);clear L u1 u2 v0 v1 v2 B k0 u x;go_wp2;go_ret2
    exact O.out
   ·have h1:¬(i:Int)<(n:Int):=by omega
    have O:=Aa (show ∀c,Below wr.heap.size wr c->F9 (bs.map BAt.I) kind name w (aH (aN #[.int .i64 (i:Int),.bool false])) c from fun c m=>⟨i,false,rfl,Z.out,by rw[aa.out];exact⟨fun h=>Bool.noConfusion h,fun h=>absurd h.1 ab⟩,o.trans ((a.trans (m.mono a.size)).mono o.size)⟩);clear C E;go_upto_region 8 with fail
    refine AQ (by kernel_rfl) (by kernel_rfl) ?_;iterate 5 quiet_step (fail)
    iterate 8 (with_reducible refine AY ?_ ?_;kernel_rfl;simp only[Act.put,bP,cA,cB])
    iterate 3 quiet_step (fail)
    refine wpQuiet_nil ?_;rintro c ⟨⟨_,m⟩,rfl⟩;have am:=Aa (O.out c m);go_wp2;go_ret2
    exact am.out
theorem Dd(kind name:ByteArray)(a:As w v bs)(j:bs.length<=1048576)(c:∀s t,s<=t->t<bs.length->DC (bs.map BAt.I) kind name t<0->DC (bs.map BAt.I) kind name s<0):Calls prog 132 #[v,bG #[aB kind,aB name]] w fun e w'=>F9 (bs.map BAt.I) kind name w e w':=by
 obtain⟨ao,l,rfl⟩:=a.1.ae;have b:=(aM w.heap.size w).alloc (aL _) (aK #[aB kind,aB name] 73);have d:=TD kind name (a.V b) j c;clear a c;generalize bs.length=n at *;go_enter func132,ntmps132;go_wp2_with (go_at_call 176;refine d.mono ?_)
 rintro e w2 ⟨i,f,rfl,h1,g,h⟩;have k:=Aa (show F9 (bs.map BAt.I) kind name w (aH (aN #[.int .i64 (i:Int),.bool f])) w2 from⟨i,f,rfl,h1,g,b.trans (h.mono b.size)⟩);clear d h1 g h;go_wp2;go_ret2
 exact k.out
theorem Es{P:List PBlock}(h:P.Pairwise (fun a b=>blockLt a b=true))(kind name:ByteArray):∀s t,s<=t->t<P.length->DC P kind name t<0->DC P kind name s<0:=by
 intro s t i d c;rcases Nat.lt_or_ge s t with f | j
 ·have e:s<P.length:=by omega
  have h1:=List.pairwise_iff_getElem.1 h s t e d f;unfold DC at c⊢;rw[bS d]at c;rw[bS e];simp only at c⊢;have g:=(BC P[t] ⟨kind,name,[]⟩).1 c;exact(BC P[s] ⟨kind,name,[]⟩).2 (Ch _ _ _ h1 g)
 ·have:s=t:=by omega
  rw[this];exact c
variable {xa:Option Addr}{ys:List (List UInt8)}{va vb:Value}
theorem OH{kx ky:ByteArray}{c:Option Addr}{a b d f:Nat}{xs:List (List UInt8)}(h1:Ap w (aA xa a d) xs.length 1 (strs xs))(h:Ap w (aA c b f) ys.length 1 (strs ys))(j:a<=1048576)(k:b<=1048576):Calls prog 178 #[bG #[aB kx,aA xa a d],bG #[aB ky,aA c b f]] w fun e w'=>e=aH (.bool (decide (xs=ys)))/\Below w.heap.size w w':=by
 have g:Below w.heap.size w ((w.alloc (aK #[aB kx,aA xa a d] 115)).alloc (aK #[aB ky,aA c b f] 115)):=((aM w.heap.size w).alloc (aL _) _).alloc (by simp) _;have i:=EL (h1.V g) (h.V g) j k;clear h1 h;go_enter func178,ntmps178;go_wp2_with (go_at_call 127;refine i.mono ?_)
 rintro e w2 ⟨rfl,l,rfl⟩;clear i;go_wp2;go_ret;exact⟨rfl,below_drewN g l⟩
theorem V6{xs ys:List LAt}(h1:An w va xs)(u:An w vb ys)(v:Ah xs)(H:Ah ys):Calls prog 177 #[va,vb,.func (.func 178) #[] #[]] w fun e w'=>e=aH (.bool (decide (xs.map LAt.ws=ys.map LAt.ws)))/\Below w.heap.size w w':=by
 obtain⟨ao,ca,rfl⟩:=h1.1.ae;obtain⟨bo,cb,rfl⟩:=u.1.ae;by_cases k:xs.length=ys.length
 ·have U:=Aa k;have ai:=Aa h1;have aj:=Aa u;have ak:=Aa v;have al:=Aa H;have ay:xs.length<=1048576:=v.1;rw[<-k];clear h1 u v H k;generalize V:xs.length=n at *;have z:=Aa V;clear V;have az:((n:Int) != (n:Int))=false:=by simp
  go_enter func177,ntmps177;go_wp2;go_loopw [17] (fun i wr=>∃j:Nat,i=.int .i64 (j:Int)/\j<=n/\Hid ((xs.take j).map LAt.ws=(ys.take j).map LAt.ws)/\Below w.heap.size w wr) (fun i _=>n-(intOf i).toNat)
  case atStart=>exact⟨0,rfl,by omega,Aa (by simp),aM _ _⟩
  case round =>
   obtain⟨j,rfl,a0,A,c⟩:=hrel;by_cases a1:j<n
   ·obtain⟨D,x,T,o,C⟩:=AS xs j (by have:=z.out;omega);obtain⟨am,y,a2,p,E⟩:=AS ys j (by have:=U.out;have:=z.out;omega);have I:=ai.out.V c;have J:=aj.out.V c;have K:x∈xs:=by rw[o];simp
    have L:y∈ys:=by rw[p];simp
    have M:=I.1;have N:=J.1;rw[o]at M;rw[p]at N;obtain⟨g,off,rfl,W,c2⟩:=M.line;obtain⟨a3,a4,rfl,F,q⟩:=N.line;have r:=I.2 x K;have s:=J.2 y L;obtain⟨a,b,X⟩:=Ap.ae r;obtain⟨d,f,Y⟩:=Ap.ae s;have Z:=(ak.out.2 x K).1;have aa:=(al.out.2 y L).1;unfold BL at r s;rw[X]at c2 r;rw[Y]at q s;simp only[C]at W c2;simp only[E]at F q;have an:=Aa (show ¬x.ws=y.ws->decide (xs.map LAt.ws=ys.map LAt.ws)=false from fun h=>decide_eq_false (fun e=>by
     have ab:=congrArg (fun l:List (List (List UInt8))=>l[j]?) e;simp only[bL,o,p,aW (show D.length<=j by omega),aW (show am.length<=j by omega),C,E,bW,aC,cF]at ab;exact h (bU ab)))
    have ap:=Aa (show x.ws=y.ws->(xs.take (j+1)).map LAt.ws=(ys.take (j+1)).map LAt.ws from fun aq=>by
     have ar:xs.take (j+1)=xs.take j++[x]:=by rw[o,<-C,Bk,BG]
     have t2:ys.take (j+1)=ys.take j++[y]:=by rw[p,<-E,Bk,BG]
     rw[ar,t2,aO,aO,A.out,cE,cE,aq])
    have a5:(0:Int)<=(j:Int):=by omega
    have a6:(j:Int)<(n:Int):=by omega
    have G:=(aM wr.heap.size wr).alloc (aL _) (aK #[aB x.key,aA a x.ws.length b] 115);have t:=G.alloc (by simp) (aK #[aB y.key,aA d y.ws.length f] 115);have au:=(G.cell (aG wr _ F)).trans F;have av:=(G.cell (aG wr _ q)).trans q;have O:((wr.alloc (aK #[aB x.key,aA a x.ws.length b] 115)).alloc (aK #[aB y.key,aA d y.ws.length f] 115)).heap[wr.heap.size]?=aJ (aK #[aB x.key,aA a x.ws.length b] 115 (0,0)):=by
     have aw:=(aM (wr.alloc (aK #[aB x.key,aA a x.ws.length b] 115)).heap.size (wr.alloc (aK #[aB x.key,aA a x.ws.length b] 115))).alloc (aL _) (aK #[aB y.key,aA d y.ws.length f] 115);rw[aw.block wr.heap.size (by simp)];exact Al wr _
    have P:((wr.alloc (aK #[aB x.key,aA a x.ws.length b] 115)).alloc (aK #[aB y.key,aA d y.ws.length f] 115)).heap[wr.heap.size+1]?=aJ (aK #[aB y.key,aA d y.ws.length f] 115 (0,0)):=by
     have:=Al (wr.alloc (aK #[aB x.key,aA a x.ws.length b] 115)) (aK #[aB y.key,aA d y.ws.length f] 115);rw[bM]at this;exact this
    have k0:=Ab O 0;have ac:=Ab O 1;have ad:=Ab P 0;have ae:=Ab P 1;simp only[aD,aC,aE]at k0 ac ad ae;have Q:=OH (kx:=x.key) (ky:=y.key) (r.V t) (s.V t) Z aa;generalize af:decide (x.ws=y.ws)=ax at Q;have ag:=Aa af;clear I J K L M N r s X Y o p C E Z aa F q A af O P;generalize x.key=xk at *;generalize y.key=yk at *;generalize x.ws.length=a7 at *;generalize y.ws.length=a8 at *;go_wp2_with (go_at_call 178;refine Q.mono ?_)
    rintro e w2 ⟨rfl,ah⟩;have B:=Aa (c.trans ((t.trans (ah.mono t.size)).mono c.size));clear c G t ah Q k0 ac ad ae W c2 au av;cases ax
    ·have R:=an.out (of_decide_eq_false ag.out);go_wp2;go_ret;exact⟨R▸rfl,B.out⟩
    ·have S:=Aa (ap.out (of_decide_eq_true ag.out));go_wp2;go_roundw;case rel=>exact⟨j+1,by go_num,by omega,S,B.out⟩
     case measure=>simp[intOf];omega
   ·obtain rfl:j=n:=by omega
    have S:=decide_eq_true (show xs.map LAt.ws=ys.map LAt.ws from by
     have h:=A.out;have e:xs.length=ys.length:=z.out.trans U.out;rw[<-z.out,cH,e,cH]at h;exact h)
    clear A;go_wp2;go_ret;exact⟨S▸rfl,c⟩
 ·have R:=decide_eq_false (show ¬xs.map LAt.ws=ys.map LAt.ws from fun e=>k (by have:=congrArg List.length e;simpa using this));have a9:((xs.length:Int) != (ys.length:Int))=true:=by rw[bne_iff_ne];omega
  clear h1 u v H k;generalize xs.length=n at *;generalize ys.length=m at *;go_enter func177,ntmps177;go_wp2;go_ret;exact⟨R▸rfl,aM _ _⟩
variable {Q:Exit -> Act -> World -> Prop}{a:Act}{W0:World}{g:Nat}
def QC: Oper := ⟨aJ 17, .move (.tmp 3), 52, "l3_parse.go:179", #[], aF⟩
def QD: Oper := ⟨aJ 18, .indexAddr 52 (.tmp 17) (.const (.int .i64 0)), 0, "l3_parse.go:179", #[⟨0, .data⟩], aF⟩
def QE: Oper := ⟨aJ 19, .load 9 (.tmp 18), 9, "l3_parse.go:179", #[⟨1, .data⟩], aF⟩
def QF: Oper := ⟨aJ 20, .move (.tmp 3), 52, "l3_parse.go:179", #[], aF⟩
def QG: Oper := ⟨aJ 21, .slice 52 (.tmp 20) (aJ (.const (.int .i64 1))) aF aF, 52, "l3_parse.go:179", #[⟨3, .data⟩], aF⟩
def QH: Oper := ⟨aJ 22, .build 115 #[(0, .tmp 19), (1, .tmp 21)], 115, "l3_parse.go:179", #[⟨2, .data⟩, ⟨4, .data⟩], aF⟩
def V8: Oper := ⟨aJ 10, .alloc 115, 0, "l3_parse.go:179", #[], aF⟩
def QI: Oper := ⟨aF, .store 115 (.tmp 10) (.tmp 22), 0, "l3_parse.go:179", #[⟨6, .data⟩, ⟨5, .data⟩, ⟨0, .phase⟩, ⟨1, .phase⟩, ⟨2, .phase⟩, ⟨3, .phase⟩, ⟨4, .phase⟩, ⟨5, .phase⟩, ⟨6, .phase⟩], aF⟩
def Afz:List Oper:=[QC,QD,QE,QF,QG,QH,V8,QI]
def A3F(W0:World)(g n wc:Nat)(ta:Option Addr)(key:ByteArray)(i:Nat)(x:Value)(W:World):Prop:=match i with
 | 0=>x=(aA (aJ ⟨g,0,aF⟩) (n+1) wc)
 | 1=>x=(aR (aJ ⟨g,0,aF⟩))
 | 2=>x=aB key
 | 3=>x=(aA (aJ ⟨g,0,aF⟩) (n+1) wc)
 | 4=>x=(aA ta n (wc-1))
 | 5=>x=bG #[aB key,(aA ta n (wc-1))]
 | 6=>∃R,x=aR (aJ ⟨R,0,aF⟩)/\W.heap[R]?=aJ (aK #[aB ⟨#[]⟩,aA aF 0 0] 115 (0,0))/\W0.heap.size<=R
 | _=>True
theorem Aam{ta:Option Addr}{key:ByteArray}(T:(if wc=1 then aJ ⟨g,0,aF⟩ else aJ ⟨g,1,aF⟩:Option Addr)=ta)(t:W0.cell? ⟨g,0,aF⟩=aJ (aB key))(U:n+1<=wc)(u:a.eval (.tmp 3)=(aA (aJ ⟨g,0,aF⟩) (n+1) wc))(V:a.tmps.size=36)
  (A:∀v a' R W',a'=Ai a [17,18,19,20,21,22,10] v->v 6=aR (aJ ⟨R,0,aF⟩)->W0.heap.size<=R->Below W0.heap.size W0 W'->W'.heap[R]?=aJ (aK #[aB key,(aA ta n (wc-1))] 115 (0,0))->Q .normal a' W'):(Code.region 3 Afz.toArray true).wp prog Q a W0:=by
 have k:([17,18,19,20,21,22,10]:List Nat).Nodup:=by decide
 have i0:(0:Int)<(n:Int)+1:=by omega
 have X:(1:Int)<=(n:Int)+1:=by omega
 have i2:(n:Int)+1<=(wc:Int):=by omega
 refine Be [17,18,19,20,21,22,10] (A3F W0 g n wc ta key) (fun _ W=>Below W0.heap.size W0 W) 7 8 [0,1,2,3,4,5,6,7] (by kernel_rfl) rfl (by decide) (by kernel_rfl) ?h1 (aM _ _).drew ?hall;case h1 =>
  intro i x W Y;unfold A3F;split <;> first | omega | trivial
 refine Ag.ad (o:=QC) [] (by kernel_rfl) (by decide) (by kernel_rfl) rfl ?o0 (Ag.ad (o:=QD) [0] (by kernel_rfl) (by decide) (by kernel_rfl) rfl ?o1 (Ag.ad (o:=QE) [1] (by kernel_rfl) (by decide) (by kernel_rfl) rfl ?o2 (Ag.ad (o:=QF) [] (by kernel_rfl) (by decide) (by kernel_rfl) rfl ?o3 (Ag.ad (o:=QG) [3] (by kernel_rfl) (by decide) (by kernel_rfl) rfl ?o4 (Ag.ad (o:=QH) [2,4] (by kernel_rfl) (by decide) (by kernel_rfl) rfl ?o5 (Ag.ad (o:=V8) [] (by kernel_rfl) (by decide) (by kernel_rfl) rfl ?o6 (Ag.lastQ (o:=QI) [6,5,0,1,2,3,4,5,6] (by kernel_rfl) (by kernel_rfl) rfl ?o7)))))));case o0 =>
  rintro p L _ W m l ⟨v,rfl,c,d⟩ K f;have r:=(A1 (v:=v) (show 3 ∉ ([17,18,19,20,21,22,10]:List Nat) by decide)).trans u;have b : execOp (Ai a [17, 18, 19, 20, 21, 22, 10] v).eval QC = execOp (bD ⟨#[undef], []⟩) ⟨aJ 0, .move (.const (aA (aJ ⟨g, 0, aF⟩) (n + 1) wc)), 0, "", #[], aF⟩ := by simp only[execOp, Ac, QC, r]
  refine Br.mk ?_;unfold bH;rw[b];clear b;go_simp;exact f.out _ _ (A7.ag (W:=W) c 0 (aA (aJ ⟨g,0,aF⟩) (n+1) wc) (Ao 0 k rfl) (fun _ _ _ h=>h) rfl d)
 case o1 =>
  rintro p L _ W m l ⟨v,rfl,c,d⟩ K f;have B:(Ai a [17,18,19,20,21,22,10] v).eval (.tmp 17)=_:=(Aj 0 k rfl (by omega)).trans (c 0 (l 0 (by simp)));have b : execOp (Ai a [17, 18, 19, 20, 21, 22, 10] v).eval QD = execOp (bD ⟨#[undef], []⟩) ⟨aJ 0, .indexAddr 52 (.const (aA (aJ ⟨g, 0, aF⟩) (n + 1) wc)) (.const (.int .i64 0)), 0, "", #[], aF⟩ := by simp only[execOp, Ac, QD, B]
  refine Br.mk ?_;unfold bH;rw[b];clear b;go_simp;exact f.out _ _ (A7.ag (W:=W) c 1 (aR (aJ ⟨g,0,aF⟩)) (Ao 1 k rfl) (fun _ _ _ h=>h) rfl d)
 case o2 =>
  rintro p L _ W m l ⟨v,rfl,c,d⟩ K f;have C:(Ai a [17,18,19,20,21,22,10] v).eval (.tmp 18)=_:=(Aj 1 k rfl (by omega)).trans (c 1 (l 1 (by simp)));have Z:=(d.cell (aG _ _ t)).trans t;have b : execOp (Ai a [17, 18, 19, 20, 21, 22, 10] v).eval QE = execOp (bD ⟨#[undef], []⟩) ⟨aJ 0, .load 9 (.const (aR (aJ ⟨g, 0, aF⟩))), 0, "", #[], aF⟩ := by simp only[execOp, Ac, QE, C]
  refine Br.mk ?_;unfold bH;rw[b];clear b;go_simp;exact f.out _ _ (A7.ag (W:=W) c 2 (aB key) (Ao 2 k rfl) (fun _ _ _ h=>h) rfl d)
 case o3 =>
  rintro p L _ W m l ⟨v,rfl,c,d⟩ K f;have r:=(A1 (v:=v) (show 3 ∉ ([17,18,19,20,21,22,10]:List Nat) by decide)).trans u;have b : execOp (Ai a [17, 18, 19, 20, 21, 22, 10] v).eval QF = execOp (bD ⟨#[undef], []⟩) ⟨aJ 0, .move (.const (aA (aJ ⟨g, 0, aF⟩) (n + 1) wc)), 0, "", #[], aF⟩ := by simp only[execOp, Ac, QF, r]
  refine Br.mk ?_;unfold bH;rw[b];clear b;go_simp;exact f.out _ _ (A7.ag (W:=W) c 3 (aA (aJ ⟨g,0,aF⟩) (n+1) wc) (Ao 3 k rfl) (fun _ _ _ h=>h) rfl d)
 case o4 =>
  rintro p L _ W m l ⟨v,rfl,c,d⟩ K f;have D:(Ai a [17,18,19,20,21,22,10] v).eval (.tmp 20)=_:=(Aj 3 k rfl (by omega)).trans (c 3 (l 3 (by simp)));have b : execOp (Ai a [17, 18, 19, 20, 21, 22, 10] v).eval QG = execOp (bD ⟨#[undef], []⟩) ⟨aJ 0, .slice 52 (.const (aA (aJ ⟨g, 0, aF⟩) (n + 1) wc)) (aJ (.const (.int .i64 1))) aF aF, 0, "", #[], aF⟩ := by simp only[execOp, Ac, QG, D, cF, Option.map_none]
  refine Br.mk ?_;unfold bH;rw[b];clear b;go_simp;exact f.out _ _ (A7.ag (W:=W) c 4 (aA ta n (wc-1)) (Ao 4 k rfl) (fun _ _ _ h=>h) rfl d)
 case o5 =>
  rintro p L _ W m l ⟨v,rfl,c,d⟩ K f;have E:(Ai a [17,18,19,20,21,22,10] v).eval (.tmp 19)=_:=(Aj 2 k rfl (by omega)).trans (c 2 (l 2 (by simp)));have F:(Ai a [17,18,19,20,21,22,10] v).eval (.tmp 21)=_:=(Aj 4 k rfl (by omega)).trans (c 4 (l 4 (by simp)));have b : execOp (Ai a [17, 18, 19, 20, 21, 22, 10] v).eval QH = execOp (bD ⟨#[undef], []⟩) ⟨aJ 0, .build 115 #[(0, .const (aB key)), (1, .const (aA ta n (wc-1)))], 0, "", #[], aF⟩ := by simp only[execOp, Ac, QH, E, F, List.map_toArray, bR, bV]
  refine Br.mk ?_;unfold bH;rw[b];clear b;go_simp;exact f.out _ _ (A7.ag (W:=W) c 5 (bG #[aB key,(aA ta n (wc-1))]) (Ao 5 k rfl) (fun _ _ _ h=>h) rfl d)
 case o6 =>
  rintro p L _ W m l ⟨v,rfl,c,d⟩ K f;have G:=(aM W.heap.size W).alloc (aL _) (aK #[aB ⟨#[]⟩,aA aF 0 0] 115);have b : execOp (Ai a [17, 18, 19, 20, 21, 22, 10] v).eval V8 = execOp (bD ⟨#[undef], []⟩) ⟨aJ 0, .alloc 115, 0, "", #[], aF⟩ := by kernel_rfl
  refine Br.mk ?_;unfold bH;rw[b];clear b;go_simp;refine f.out _ _ (A7.ag (W:=W) c 6 (aR (aJ ⟨W.heap.size,0,aF⟩)) (Ao 6 k rfl) (fun j y w h=>?_) ⟨W.heap.size,rfl,Al _ _,d.size⟩ (d.trans (G.mono d.size)));have H:j≠6:=fun e=>by rw[e,m]at w;cases w
  unfold A3F at *;split <;> simp only at h
  all_goals first | exact h | exact absurd rfl H | trivial
 case o7 =>
  rintro p L _ W m l ⟨v,rfl,c,d⟩ K f;obtain⟨R,z,q,s⟩:=c 6 (l 6 (by simp));have I:(Ai a [17,18,19,20,21,22,10] v).eval (.tmp 10)=_:=(Aj 6 k rfl (by omega)).trans z;have J:(Ai a [17,18,19,20,21,22,10] v).eval (.tmp 22)=_:=(Aj 5 k rfl (by omega)).trans (c 5 (l 5 (by simp)));have M:=Ab q 0;have N:=Ab q 1;simp only[aD,aC,aE]at M N;have aa:=Ad q 0;have ab:=Ad q 1;have O:=Aa (show ((W.setCell ⟨R,0,aF⟩ (aB key)).setCell ⟨R,1,aF⟩ (aA ta n (wc-1))).heap[R]?=aJ (aK #[aB key,(aA ta n (wc-1))] 115 (0,0)) from by
   have P:(W.setCell ⟨R,0,aF⟩ (aB key)).heap[R]?=aJ (aK #[aB key,aA aF 0 0] 115 (0,0)):=by rw[heap_setCell_same W R 0 _ _ _ q];rfl
   rw[heap_setCell_same _ R 1 _ _ _ P];rfl)
  have S:=Aa (AP (AP d ⟨R,0,aF⟩ s (aB key)) ⟨R,1,aF⟩ s (aA ta n (wc-1)));have b : execOp (Ai a [17, 18, 19, 20, 21, 22, 10] v).eval QI = execOp (bD ⟨#[undef], []⟩) ⟨aJ 0, .store 115 (.const (aR (aJ ⟨R, 0, aF⟩))) (.const (bG #[aB key, (aA ta n (wc-1))])), 0, "", #[], aF⟩ := by simp only[execOp, Ac, QI, I, J]
  refine Br.mk ?_;unfold bH;rw[b];clear b;go_simp;exact f.out _ _ (NoPanic.normal (A v _ R _ rfl z s S.out O.out))
variable {vr:Value}{B:Nat}{L:List AO}
theorem Aan{R:Nat}{rest:ByteArray}{ev:Value}(h:C4 R rest m w):Calls prog 188 #[aR (aJ ⟨R,0,aF⟩),vr,ev,aA aF 0 0] w fun e w'=>e=aH (aN #[aA aF 0 0,JH m 8])/\w'=w:=by
 have a:=Gt h 8;go_enter func188,ntmps188;go_wp2_with (go_at_call 232;refine a.mono ?_;rintro e b ⟨rfl,rfl⟩)
 go_ret2
 exact⟨rfl,rfl⟩
def GS(R:List Plain)(B:Nat)(ev:Value)(es:List LAt)(m:Nat)(x:List UInt8)(xs:List (List UInt8))(ta:Option Addr)(wc:Nat)(w:World)(e:Ending)(w':World):Prop :=
 (lineFault R (es.map LAt.I) ⟨Bu x,xs⟩≠0/\e=aH (aN #[aA aF 0 0,JH m (lineFault R (es.map LAt.I) ⟨Bu x,xs⟩)])/\Below w.heap.size w w') \/
 (lineFault R (es.map LAt.I) ⟨Bu x,xs⟩=0/\∃a c,e=aH (aN #[aA a (es.length+1) c,.nilIface])/\w'.ownsRow B 115 2 (aA a (es.length+1) c) (es.length+1) ((es++[(⟨Bu x,aA ta xs.length (wc-1),xs⟩:LAt)]).flatMap LAt.cells)/\∃W1,Below w.heap.size w W1/\W1.grownBy w' ev.ownBlock/\((bA a (es.length+1) c).ownBlock=ev.ownBlock\/(bA a (es.length+1) c).ownBlock=aJ W1.heap.size))
theorem TF{x:List UInt8}{xs:List (List UInt8)}{ta:Option Addr}(a:(if wc=1 then aJ ⟨g,0,aF⟩ else aJ ⟨g,1,aF⟩:Option Addr)=ta)(c:Ap w (aA (aJ ⟨g,0,aF⟩) (xs.length+1) wc) (xs.length+1) 1 (strs (x::xs))):Ap w (aA ta xs.length (wc-1)) xs.length 1 (strs xs):=by
 have i:=c.cap;obtain⟨b,off,e,d⟩:=c.at (by omega);cases e
 refine⟨by rw[CO];omega,ta,wc-1,rfl,⟨by omega,by omega⟩,?_⟩;by_cases f:xs.length=0
 ·exact .inl f
 ·rw[if_neg (by omega)]at a;refine .inr ⟨g,1,a.symm,fun j u h=>?_⟩;have:=d (j+1) u (by simpa [strs] using h);rw[bN]at this;rw[Nat.add_comm 1 j];exact this
theorem Xc{R ab:Nat}{rest:ByteArray}{ea:Option Addr}{ec:Nat}{es:List LAt}{x:List UInt8}{xs:List (List UInt8)}{ta:Option Addr}(h:C4 R rest m w)(t:AX ab w vr L)(G:UT (L.map AO.I))(u:w.ownsRow B 115 2 (aA ea es.length ec) es.length (es.flatMap LAt.cells))(ac:B<=w.heap.size)(H:∀y∈es,BL w y)(az:es.length<=1000000)(I:∀y∈es,y.ws.length<=1048576)
  (n:Ap w (aA (aJ ⟨g,0,aF⟩) (xs.length+1) wc) (xs.length+1) 1 (strs (x::xs))) (J:∀y∈x::xs,y.length<=200) (a0:xs.length<=7) (K:(if wc=1 then aJ ⟨g,0,aF⟩ else aJ ⟨g,1,aF⟩:Option Addr)=ta) (M:BJ w) :
  Calls prog 188 #[aR (aJ ⟨R,0,aF⟩),vr,aA ea es.length ec,aA (aJ ⟨g,0,aF⟩) (xs.length+1) wc] w fun e w'=>GS (L.map AO.I) B (aA ea es.length ec) es m x xs ta wc w e w':=by
 obtain⟨b,off,ad,k0⟩:=n.word 0 (by simp);cases ad
 simp only[bE,bX]at k0;have ae:=n.cap;have N:=TF K n;have a1:(((xs.length:Int)+1)==0)=false:=by rw[beq_eq_false_iff_ne];omega
 generalize k:lineFault (L.map AO.I) (es.map LAt.I) ⟨Bu x,xs⟩=d;obtain⟨i0,af,ag,ah,ai⟩:=info_parts CK;have z:=Aa (show d≠0->∀W,Below w.heap.size w W->GS (L.map AO.I) B (aA ea es.length ec) es m x xs ta wc w (aH (aN #[aA aF 0 0,JH m d])) W from fun f W i=>.inl ⟨by rw[k];exact f,by rw[k],i⟩);have A:=Aa (show d=0->∀a c W,W.ownsRow B 115 2 (aA a (es.length+1) c) (es.length+1) ((es++[(⟨Bu x,aA ta xs.length (wc-1),xs⟩:LAt)]).flatMap LAt.cells)->(∃W1,Below w.heap.size w W1/\W1.grownBy W (bA ea es.length ec).ownBlock/\((bA a (es.length+1) c).ownBlock=(bA ea es.length ec).ownBlock\/(bA a (es.length+1) c).ownBlock=aJ W1.heap.size))->GS (L.map AO.I) B (aA ea es.length ec) es m x xs ta wc w (aH (aN #[aA a (es.length+1) c,.nilIface])) W from fun f a c W aj ak=>.inr ⟨by rw[k];exact f,a,c,rfl,aj,ak⟩);have O:∀W,Below w.heap.size w W->Calls prog 135 #[vr,aA ea es.length ec,bG #[aB ⟨x.toArray⟩,aA ta xs.length (wc-1)]] W fun e w'=>e=aH (.int .i64 d)/\Below W.heap.size W w':=fun W i=>by
  have:=I5 (w:=W) ⟨Bu x,xs⟩ (t.V i) G ⟨(AG u).V i,fun y l=>(H y l).V i⟩ (by omega) I (N.V i) (by simp only;omega) (fun y l=>aP (J y (aV _ l)) (by decide)) (M.V i);rw[k]at this;exact this
 have al:=Aa u;have am:=Aa h;obtain⟨o,p,rfl⟩:∃o p,vr=aA o L.length p:=by
  obtain⟨o,p,e,_⟩:=Ak (Az.head t);exact⟨o,p,e⟩
 clear h t u H I n J M N k G;generalize P:es.length=an at *;have a2:=Aa P;clear P;generalize ao:xs.length=q at *;clear ao;generalize L.length=a3 at *;go_enter func188,ntmps188;go_upto_region 3 with fail
 refine Aam K k0 ae.1 (by kernel_rfl) (by kernel_rfl) ?_;intro v a' a4 W1 Q ap a5 C S;simp only[Ai,CL,bP,cA,cB,ap]at Q;subst Q;have T:=O W1 C;have c0:=Ab S 0;have r:=Ab S 1;simp only[aD,aC,aE]at c0 r;go_wp2_with (go_at_call 135;refine T.mono ?_)
 first | rintro e w2 rfl s | rintro e w2 ⟨rfl,s⟩
 have j:=C.trans (s.mono C.size);have D:=am.out.V j;have U:=(s.cell (aG _ _ c0)).trans c0;have V:=(s.cell (aG _ _ r)).trans r;clear T O c0 r;by_cases f:d=0
 ·subst f;have X:=(AL al.out j).alloc (aK #[aB ⟨x.toArray⟩,aA ta q (wc-1)] 115);have Y:=Bz w2 #[aB ⟨x.toArray⟩,aA ta q (wc-1)] 115 2 rfl;have E:=Cy (ls:=[⟨Bu x,aA ta q (wc-1),xs⟩]) (fun y l=>by rw[aS.1 l];exact⟨_,_,_,rfl⟩);rw[bF]at E;have aq:=(aM w2.heap.size w2).alloc (aL _) (aK #[aB ⟨x.toArray⟩,aA ta q (wc-1)] 115);have ar:=j.trans (aq.mono j.size);clear D;go_wp2_with (at_builtin;refine A8 (by rfl) _ _ 44 (by rfl) B 115 i0 _ 2 40 underlying44 af ag ah ai rfl (by decide) _ an _ (by rfl) X _ 1 _ (by rfl) Y E ?c3 ?c4 (aP ac (aP j.size (by simp))) ?_)
  case c3=>unfold maxLen;omega
  case c4=>omega
  intro au av aw Z aa ax;have F:=Aa (A.out (by trivial) au av aw (by rw[bJ,bF];exact Z) ⟨_,ar,aa,by rw[bM];exact ax⟩);clear X Y E Z aa U V z A;go_wp2;go_ret2
  exact F.out
 ·have a6:(d==0)=false:=by rw[beq_eq_false_iff_ne];exact f
  have ay:=Gt D d;have F:=Aa (z.out f w2 j);clear D U V z A;go_wp2_with (go_at_call 232;refine ay.mono ?_;rintro e a7 ⟨rfl,rfl⟩)
  go_ret2
  exact F.out
structure InJ(w:World)(R nl:Nat)(va:Option Addr)(vc:Nat)(bk bn:ByteArray)(bl:List LAt)(key:ByteArray)(ao:Option Addr)(nx c:Nat)(xs:List (List UInt8))(W:World):Prop where
 bw:Below w.heap.size w W
 sz:w.heap.size+2<=W.heap.size
 res:W.heap[w.heap.size+1]?=aJ (aK #[aB ⟨#[]⟩,aB ⟨#[]⟩,aA aF 0 0] 46 (0,0))
 box:W.heap[w.heap.size]?=aJ (aK #[aB bk,aB bn,aA va nl vc] 46 (0,0))
 line:W.heap[R]?=aJ (aK #[aB key,aA ao nx c] 115 (0,0))
 hb:AH W ⟨bk,bn,aA va nl vc,bl⟩
 hx:Ap W (aA ao nx c) nx 1 (strs xs)
def PjS(S X:Nat)(done:List PBlock)(W:World):Prop:=∃sa sc bs,W.heap[S]?=aJ (aK #[aA sa bs.length sc] 25 (0,0))/\As W (aA sa bs.length sc) bs/\bs.map BAt.I=Cv done/\AD S (aA sa bs.length sc) bs/\AD X (aA sa bs.length sc) bs/\∀b∈bs,b.name.size<=1048576/\Ah b.ls
def PjO(S X k:Nat)(o:PBlock)(b:BAt)(W:World):Prop:=b.aa=o.aa/\b.name=o.name/\b.ls.map LAt.I=BS (rulesOf o.aa) o.ac/\AH W b/\Ay S b.v b.ls/\Ay X b.v b.ls/\Ah b.ls/\b.ls.length<=k/\b.name.size<=1048576
def PjB(S X k:Nat)(d:Option PBlock)(W:World):Prop:=∃(b:BAt) (a:Option Addr) (n c:Nat),b.v=aA a n c/\W.heap[X]?=aJ (aK #[aB b.aa,aB b.name,aA a n c] 46 (0,0))/\∀o,d=aJ o->PjO S X k o b W
structure PJ(w:World)(S X:Nat)(lv:Value)(ls:List (List UInt8))(k:Nat)(done:List PBlock)(op:Option PBlock)(W:World):Prop where
 bw:Below w.heap.size w W
 r0:W.heap[w.heap.size]?=aJ (aK #[aA aF 0 0] 25 (0,0))
 r1:W.heap[w.heap.size+1]?=aJ (aK #[.int .i64 0,.int .i64 0] 38 (0,0))
 row:Ap W lv ls.length 1 (strs ls)
 fs:Cc S lv ls.length
 fx:Cc X lv ls.length
 sx:w.heap.size+2<=S/\S<X
 sb:PjS S X done W
 bb:PjB S X k op W
variable {M:Nat}
theorem D9(M:Nat)(w:World):Calls prog 173 #[aR (aJ ⟨M,0,aF⟩),.bool true] w fun e w'=>e=aH (aN #[])/\w'=w:=by
 go_enter func173,ntmps173;go_wp2;go_end0
 exact⟨rfl,rfl⟩
theorem Cg{p:Int}(a:w.cell? ⟨M,1,aF⟩=aJ (.int .i64 p)):Calls prog 173 #[aR (aJ ⟨M,0,aF⟩),.bool false] w fun e w'=>e=.panicked [{ v:=.iface 173 (bG #[.int .i64 p]),recovered:=false }]/\w'=w:=by
 go_enter func173,ntmps173;go_wp2;exact⟨rfl,rfl,rfl⟩
variable {N:Nat}
structure Dh where
 g:Nat
 wc:Nat
 x:List UInt8
 xs:List (List UInt8)
def Dh.ta(y:Dh):Option Addr:=if y.wc=1 then aJ ⟨y.g,0,aF⟩ else aJ ⟨y.g,1,aF⟩
def Dh.l(y:Dh):LAt:=⟨Bu y.x,aA y.ta y.xs.length (y.wc-1),y.xs⟩
def Dh.r(y:Dh):MRow:=⟨aA (aJ ⟨y.g,0,aF⟩) (y.xs.length+1) y.wc,9,1,y.xs.length+1,strs (y.x::y.xs)⟩
def Dh.sm(y:Dh):Prop:=y.xs.length<=7/\∀a∈y.x::y.xs,a.length<=200
structure DL where
 aa:ByteArray
 name:ByteArray
 v:Value
 ys:List Dh
def DL.b(b:DL):BAt:=⟨b.aa,b.name,b.v,b.ys.map Dh.l⟩
def BY(ys:List Dh):List PLine:=(ys.map Dh.l).map LAt.I
def BH(a:List DL):List PBlock:=(a.map DL.b).map BAt.I
def DD(v:Value)(ys:List Dh):List MRow:=⟨v,115,2,ys.length,(ys.map Dh.l).flatMap LAt.cells⟩::ys.map Dh.r
def CG(v:Value)(a:List DL):List MRow:=⟨v,46,3,a.length,(a.map DL.b).flatMap BAt.cells⟩::a.flatMap (fun b=>DD b.v b.ys)
def Se(Y:Nat)(k n:ByteArray)(v:Value):MRow:=⟨aA (aJ ⟨Y,0,aF⟩) 1 1,46,3,1,[aB k,aB n,v]⟩
def Ab7(v:Value)(L:List AO):List MRow:=⟨v,54,4,L.length,L.flatMap AO.cells⟩::L.flatMap AO.ah
theorem Sf{y:Dh}(h:y.r.isAt B W):BL W y.l:=TF (x:=y.x) (g:=y.g) rfl (AG h)
theorem Ab8{ys:List Dh}(h:Az B W (DD v ys)):An W v (ys.map Dh.l):=by
 refine⟨?_,fun x a=>?_⟩
 ·have:=AG (Az.head h);rw[aI];exact this
 ·obtain⟨y,b,rfl⟩:=aY.1 a;exact Sf (h.1 y.r (aV _ (bI b)))
theorem EK{a:List DL}(h:Az B W (CG v a)){b:DL}(d:b∈a):Az B W (DD b.v b.ys):=by
 obtain⟨A,C,e⟩:=Ft (fun b:DL=>DD b.v b.ys) d;have c:=Az.tail h;rw[e]at c;exact Az.left (Az.right c)
theorem Oh{a:List DL}(h:Az B W (CG v a)):As W v (a.map DL.b):=by
 refine⟨?_,fun x c=>?_⟩
 ·have:=AG (Az.head h);rw[aI];exact this
 ·obtain⟨b,d,rfl⟩:=aY.1 c;exact Ab8 (EK h d)
theorem YL{ys:List Dh}(b:ys.length<=1048576)(h:∀y∈ys,y.sm):Ah (ys.map Dh.l):=by
 refine⟨by rw[aI];exact b,fun x c=>?_⟩;obtain⟨y,a,rfl⟩:=aY.1 c;exact⟨aP (h y a).1 (by decide),fun d e=>aP ((h y a).2 d (aV _ e)) (by decide)⟩
def DL.sm(b:DL):Prop:=b.name.size<=200/\b.ys.length<=1000000/\∀y∈b.ys,y.sm
theorem YM{a:List DL}(d:a.length<=1048576)(h:∀b∈a,b.sm):Ax (a.map DL.b):=by
 refine⟨by rw[aI];exact d,fun x e=>?_⟩;obtain⟨b,c,rfl⟩:=aY.1 e;exact⟨aP (h b c).1 (by decide),YL (aP (h b c).2.1 (by decide)) (h b c).2.2⟩
def E7(R:Nat)(W:World):Nat:=match W.cell? ⟨R,0,aF⟩ with
 | some (aB s)=>(A9 s.data.toList).length
 | _=>0
theorem C4.ac{R:Nat}{rest:ByteArray}(h:C4 R rest m W):E7 R W=(A9 rest.data.toList).length:=by
 have c0:=Ab h 0;simp only[aD,aC]at c0;unfold E7;rw[c0]
structure PN(R:Nat)(w:World)(N:Nat)(L:List MRow)(rest:ByteArray)(m:Nat)(W:World):Prop where
 mem:Az w.heap.size W L
 box:C4 R rest m W
 gr:w.grownBy W (aJ R)
 lt:R<w.heap.size
 sz:rest.size<=1048576
 n:m+(A9 rest.data.toList).length=N
 big:N<=1000000
theorem PN.V{R:Nat}{L:List MRow}{rest:ByteArray}(h:PN R w N L rest m W)(a:Below W.heap.size W W'):PN R w N L rest m W' :=
 ⟨h.mem.V a,h.box.V a,Ar h.gr (A2 a _),h.lt,h.sz,h.n,h.big⟩
theorem PN.read{R:Nat}{L:List MRow}{rest r:ByteArray}{m':Nat}{x:List UInt8}{xs rs:List (List UInt8)}(h:PN R w N L rest m W)(d:DB m (A9 rest.data.toList)=.words m' x xs rs)(b:W.grownBy W' (aJ R))(f:A9 r.data.toList=rs)(i:r.size<=1048576)(j:C4 R r m' W')(c:W'.ownsRow W.heap.size 9 1 (aA (aJ ⟨g,0,aF⟩) (xs.length+1) wc) (xs.length+1) (strs (x::xs))):PN R w N ((⟨g,wc,x,xs⟩:Dh).r::L) r m' W':=by
 have k:=Ih _ _ _ _ _ _ d;have l:=h.gr.size;refine⟨?_,j,Ar h.gr b,h.lt,i,by rw[f,k.2];exact h.n,h.big⟩;have h1:=Az.other h.mem b h.lt;refine⟨fun r' a=>?_,cC.2 ⟨fun s n=>?_,h1.2⟩⟩
 ·rcases bQ.1 a with rfl | a
  ·exact Cu c l
  ·exact h1.1 r' a
 ·right;intro e;have o:=(cL c g rfl).1;have p:=(Az.lt h.mem n (g:=g) (by rw[<-e];rfl)).2;omega
variable {Y c:Nat}{xs:List Value}{kind name:ByteArray}{bv lv bv':Value}{W3 W1 W2:World}
theorem U4{k n:ByteArray}(h:W.heap[Y]?=aJ (aK #[aB k,aB n,v] 46 (0,0)))(a:B<=Y):(Se Y k n v).isAt B W:=⟨rfl,.inr ⟨Y,1,#[aB k,aB n,v],rfl,a,h,aL _,by decide,rfl,rfl⟩⟩
theorem U5{k n:ByteArray}(h:(Se Y k n v).isAt B W):W.heap[Y]?=aJ (aK #[aB k,aB n,v] 46 (0,0)):=by
 have c:W.ownsRow B 46 3 (aA (aJ ⟨Y,0,aF⟩) 1 1) 1 [aB k,aB n,v]:=h;obtain⟨_,h | ⟨g,j,a,e,_,d,_,_,f,b⟩⟩:=c
 ·cases h.1
 ·cases e
  have i:a.toList=[aB k,aB n,v]:=by
   have l:a.toList.length=3:=by simpa using f
   rw[List.take_of_length_le (by omega)]at b;exact b
  have:a=#[aB k,aB n,v]:=by
   apply Array.toList_inj.1;rw[i]
  rw[d,this]
theorem Oi{b:List DL}(h:Az B W (CG v b)):∃a c,v=aA a b.length c:=by
 have h1:W.ownsRow B 46 3 v b.length ((b.map DL.b).flatMap BAt.cells):=Az.head h;obtain⟨a,c,e,_⟩:=Ak h1;exact⟨a,c,e⟩
theorem Jg{ys:List Dh}(h:Az B W (DD v ys)):∃a c,v=aA a ys.length c:=by
 have h1:W.ownsRow B 115 2 v ys.length ((ys.map Dh.l).flatMap LAt.cells):=Az.head h;obtain⟨a,c,e,_⟩:=Ak h1;exact⟨a,c,e⟩
theorem U6{a:Option Addr}(h:W.ownsRow B 9 1 (aA a (n+1) c) (n+1) xs):∃g,a=aJ ⟨g,0,aF⟩:=by
 obtain⟨a',d,e,b⟩:=Ak h;cases e
 rcases b with b | b
 ·omega
 ·exact b
theorem PN.ah{R:Nat}{L a:List MRow}{rest:ByteArray}(h:PN R w N L rest m W)(b:Az w.heap.size W a):PN R w N a rest m W:=⟨b,h.box,h.gr,h.lt,h.sz,h.n,h.big⟩
theorem Az.consNone{L:List MRow}{r:MRow}(h:Az B W L)(b:r.isAt B W)(c:r.v.ownBlock=aF):Az B W (r::L):=⟨fun s a=>by
 rcases bQ.1 a with rfl | a
 ·exact b
 ·exact h.1 s a,cC.2 ⟨fun s _=>.inl c,h.2⟩⟩
def Em(Y:Nat)(kind name:ByteArray)(lv vr bv:Value)(ys:List Dh)(L:List AO)(a:List DL):List MRow:=Se Y kind name lv::(Ab7 vr L++(DD lv ys++CG bv a))
theorem Wz{b:List DL}{a c:World}(h:Az B W3 (CG bv b))(d:B<=W3.heap.size)(e:Below W3.heap.size W3 a)(f:a.heap[Y]?=aJ (aK #[aB kind,aB name,aA aF 0 0] 46 (0,0)))(g:W3.heap.size<=Y)(i:AX a.heap.size c vr L)(j:Below a.heap.size a c):Az B c (Em Y kind name (aA aF 0 0) vr bv [] L b):=by
 have h1:Az B W3 (DD (aA aF 0 0) []++CG bv b):=Az.consNone h (LH rfl rfl) rfl;have k:Az B a (Se Y kind name (aA aF 0 0)::(DD (aA aF 0 0) []++CG bv b)):=Az.cons h1 (U4 f g) e d;have l:=Az.join k i j (aP d e.size);exact Az.perm l (aX)
theorem Ei{ys:List Dh}{a:List DL}(h:Az B W (Em Y kind name lv vr bv ys L a)):W.heap[Y]?=aJ (aK #[aB kind,aB name,lv] 46 (0,0)):=U5 (h.1 _ (cD ..))
theorem Oj{ys:List Dh}{a:List DL}(h:Az B W (Em Y kind name lv vr bv ys L a)):AX B W vr L:=Az.left (Az.tail h)
theorem FF{ys:List Dh}{a:List DL}(h:Az B W (Em Y kind name lv vr bv ys L a)):Az B W (DD lv ys):=Az.left (Az.right (Az.tail h))
theorem YN{ys:List Dh}{a:List DL}(h:Az B W (Em Y kind name lv vr bv ys L a)):Az B W (CG bv a):=Az.right (Az.right (Az.tail h))
theorem Ab9{lv':Value}{ys:List Dh}{y:Dh}{b:List DL}(h:Az B W (y.r::Em Y kind name lv vr bv ys L b))(e:Below W.heap.size W W1)(f:W2.ownsRow B 115 2 lv' (ys.length+1) (((ys.map Dh.l)++[y.l]).flatMap LAt.cells))(i:W1.grownBy W2 lv.ownBlock)(j:lv'.ownBlock=lv.ownBlock\/lv'.ownBlock=aJ W1.heap.size):Az B (W2.setCell ⟨Y,2,aF⟩ lv') (Em Y kind name lv' vr bv (ys++[y]) L b)/\(W2.heap[Y]?=aJ (aK #[aB kind,aB name,lv] 46 (0,0))):=by
 have h1:=Az.V h e;have k:(y.r::Em Y kind name lv vr bv ys L b).Perm (⟨lv,115,2,ys.length,(ys.map Dh.l).flatMap LAt.cells⟩::(Se Y kind name lv::(Ab7 vr L++(ys.map Dh.r++[y.r]++CG bv b)))):=by
  unfold Em DD;simp only[cJ];refine List.Perm.trans ?_ (bC _ _ _);refine(bC _ _ _).trans (bB _ ?_);refine(bB _ aX).trans ?_;refine(bC _ _ _).trans (bB _ ?_);rw[List.append_assoc];exact(aX (a:=y.r) (l₁:=Ab7 vr L)).symm.trans (List.Perm.append_left _ (aX (a:=y.r) (l₁:=ys.map Dh.r)).symm)
 have l:=Az.perm h1 k;have c:=Az.grow (r':=⟨lv',115,2,ys.length+1,((ys.map Dh.l)++[y.l]).flatMap LAt.cells⟩) l f i j;have d:=U5 (c.1 (Se Y kind name lv) (by simp));refine⟨?_,d⟩;have m:=(Az.lt c (r:=Se Y kind name lv) (by simp) (g:=Y) rfl).1;have n:=AT W2 Y 2 lv';have o:(W2.setCell ⟨Y,2,aF⟩ lv').heap[Y]?=aJ (aK #[aB kind,aB name,lv'] 46 (0,0)):=by rw[heap_setCell_same W2 Y 2 _ _ _ d];rfl
 have p:=Az.midTurn (A:=[⟨lv',115,2,ys.length+1,((ys.map Dh.l)++[y.l]).flatMap LAt.cells⟩]) (r:=Se Y kind name lv) (r':=Se Y kind name lv') c rfl (U4 o m) n;refine Az.perm p ?_;unfold Em DD;simp only[cJ,List.nil_append,aO,bR,bV,bK,aZ,aT];refine(bC _ _ _).trans (bB _ ?_);rw[bN];exact aX.symm
theorem YO{ys:List Dh}{b:List DL}(h:Az B W (Em Y kind name lv vr bv ys L b))(c:W2.ownsRow B 46 3 bv' (b.length+1) (((b.map DL.b)++[(⟨kind,name,lv,ys⟩:DL).b]).flatMap BAt.cells))(d:W.grownBy W2 bv.ownBlock)(e:bv'.ownBlock=bv.ownBlock\/bv'.ownBlock=aJ W.heap.size):Az B W2 (CG bv' (b++[⟨kind,name,lv,ys⟩])):=by
 have h1:Az B W (DD lv ys++CG bv b):=Az.right (Az.tail h);unfold CG at h1;have f:=Az.perm h1 (aX (a:=(⟨bv,46,3,b.length,(b.map DL.b).flatMap BAt.cells⟩:MRow)));have g:=Az.grow (r':=⟨bv',46,3,b.length+1,((b.map DL.b)++[(⟨kind,name,lv,ys⟩:DL).b]).flatMap BAt.cells⟩) f c d e;refine Az.perm g ?_;unfold CG;simp only[aO,bR,bV,bK,aZ,aT,bJ,List.flatMap_cons,cI,List.append_nil];exact bB _ List.perm_append_comm
theorem Gy{R:Nat}{o:Option Nat}(h:w.grownBy W (aJ R))(a:W.grownBy W' o)(c:∀g,o=aJ g->w.heap.size<=g):w.grownBy W' (aJ R):=⟨a.os.trans h.os,a.tape.trans h.tape,a.output.trans h.output,aP h.size a.size,fun i b d=>by
 rw[a.block i (Nat.lt_of_lt_of_le b h.size) (fun e=>by have:=c i e.symm;omega)];exact h.block i b d⟩
theorem C4.other{R:Nat}{rest:ByteArray}{o:Option Nat}(h:C4 R rest m W)(a:W.grownBy W' o)(b:o≠aJ R):C4 R rest m W':=(a.block R (aQ.1 h).1 (fun e=>b e.symm)).trans h
theorem WA{R:Nat}{L:List MRow}{rest:ByteArray}(h:PN R w N L rest m W){r:MRow}(a:r∈L):∀g,r.v.ownBlock=aJ g->w.heap.size<=g:=fun _ b=>(Az.lt h.mem a b).1
theorem PN.Yge{R:Nat}{ys:List Dh}{a:List DL}{rest:ByteArray}(h:PN R w N (Em Y kind name lv vr bv ys L a) rest m W):w.heap.size<=Y:=WA h (cD ..) Y rfl
theorem PN.added{R:Nat}{lv':Value}{ys:List Dh}{y:Dh}{c:List DL}{rest:ByteArray}(h:PN R w N (y.r::Em Y kind name lv vr bv ys L c) rest m W)(a:Below W.heap.size W W1)(i:W2.ownsRow w.heap.size 115 2 lv' (ys.length+1) (((ys.map Dh.l)++[y.l]).flatMap LAt.cells))(b:W1.grownBy W2 lv.ownBlock)(j:lv'.ownBlock=lv.ownBlock\/lv'.ownBlock=aJ W1.heap.size):PN R w N (Em Y kind name lv' vr bv (ys++[y]) L c) rest m (W2.setCell ⟨Y,2,aF⟩ lv')/\W2.heap[Y]?=aJ (aK #[aB kind,aB name,lv] 46 (0,0)):=by
 obtain⟨h1,k⟩:=Ab9 h.mem a i b j;have l:=(h.ah (Az.tail h.mem)).Yge;have o:=h.lt;have d:∀g,lv.ownBlock=aJ g->w.heap.size<=g:=WA h (r:=⟨lv,115,2,ys.length,(ys.map Dh.l).flatMap LAt.cells⟩) (by unfold Em DD;simp);have f:=AT W2 Y 2 lv';have n:C4 R rest m W2:=(h.box.V a).other b (fun e=>by have:=d R e;omega);exact⟨⟨h1,n.other f (fun e=>by have:=bU e;omega),Gy (Gy (Ar h.gr (A2 a _)) b d) f (fun g e=>by cases e;exact l),h.lt,h.sz,h.n,h.big⟩,k⟩
theorem PN.shut{R:Nat}{ys:List Dh}{a:List DL}{rest:ByteArray}(h:PN R w N (Em Y kind name lv vr bv ys L a) rest m W)(d:W2.ownsRow w.heap.size 46 3 bv' (a.length+1) (((a.map DL.b)++[(⟨kind,name,lv,ys⟩:DL).b]).flatMap BAt.cells))(b:W.grownBy W2 bv.ownBlock)(f:bv'.ownBlock=bv.ownBlock\/bv'.ownBlock=aJ W.heap.size):PN R w N (CG bv' (a++[⟨kind,name,lv,ys⟩])) rest m W2:=by
 have i:=h.lt;have c:∀g,bv.ownBlock=aJ g->w.heap.size<=g:=WA h (r:=⟨bv,46,3,a.length,(a.map DL.b).flatMap BAt.cells⟩) (by unfold Em CG;simp);exact⟨YO h.mem d b f,h.box.other b (fun e=>by have:=c R e;omega),Gy h.gr b c,h.lt,h.sz,h.n,h.big⟩
theorem Ly(ys:List Dh)(y:Dh):BY (ys++[y])=BY ys++[⟨Bu y.x,y.xs⟩]:=by
 unfold BY;rw[aO,aO];rfl
theorem H9(a:List DL)(b:DL):BH (a++[b])=BH a++[⟨b.aa,b.name,BY b.ys⟩]:=by
 unfold BH;rw[aO,aO];rfl
def Dy(R:Nat)(f:PRes)(w:World)(e:Ending)(w':World):Prop:=w.grownBy w' (aJ R)/\match f with
 | .good bs=>∃a n c d,e=aH (aN #[aA a n c,.nilIface])/\BH d=bs/\Az w.heap.size w' (CG (aA a n c) d)/\(∀b∈d,b.sm)/\d.length<=1000000
 | .bad m c=>e=aH (aN #[aA aF 0 0,JH m c])
def Afg(R:Nat)(w:World)(N:Nat)(c:PRes)(v:Value)(W:World):Prop:=∃a rest m,PN R w N (CG v a) rest m W/\Bv m (BH a) aF (A9 rest.data.toList)=c/\a.length<=m/\∀b∈a,b.sm
def InR(R:Nat)(w:World)(N:Nat)(b:PRes)(Y c:Nat)(kind name:ByteArray)(bv vr:Value)(a:List DL)(L:List AO)(W:World):Prop:=∃ys lv rest m,PN R w N (Em Y kind name lv vr bv ys L a) rest m W/\Bv m (BH a) (aJ ⟨kind,name,BY ys⟩) (A9 rest.data.toList)=b/\(c<=m/\ys.length<=m)/\∀y∈ys,y.sm
theorem WC{R:Nat}{rest:ByteArray}(h:C4 R rest 0 w)(b0:rest.size<=1048576)(dl:(A9 rest.data.toList).length<=1000000)(b1:∀W,w.grownBy W (aJ R)->BJ W):Calls prog 140 #[aR (aJ ⟨R,0,aF⟩)] w fun e w'=>Dy R (Bv 0 [] aF (A9 rest.data.toList)) w e w':=by
 have cv:R<w.heap.size:=(aQ.1 h).1;obtain⟨o,i⟩:∃o,Bv 0 [] aF (A9 rest.data.toList)=o:=⟨_,rfl⟩;obtain⟨N,dm⟩:∃N,(A9 rest.data.toList).length=N:=⟨_,rfl⟩;have J:=Aa (show Afg R w N o (aA aF 0 0) w from⟨[],rest,0,⟨⟨by simp only[CG,cI,aS];rintro r rfl;exact LH rfl rfl,by simp[CG]⟩,h,A2 (aM w.heap.size w) _,cv,b0,by omega,by omega⟩,i,by simp,by simp⟩);rw[i];have b2:=Aa b1;clear h b0 i b1;go_enter func140,ntmps140;go_wp2;go_step3
 go_wp2;go_step3
 go_wp2;go_loopw [4] (fun v wr=>Afg R w N o v wr) (fun _ wr=>E7 R wr)
 case atStart=>exact J.out
 case round =>
  clear J;obtain⟨d,rs,m,z,k,dn,bf⟩:=hrel;obtain⟨va,X,rfl⟩:=Oi z.mem;have ax:=Pz z.box z.sz (by rw[z.n];exact z.big);have j:=Aa z;rw[GP]at k;clear z;go_wp2_with (go_at_call 186;refine ax.mono ?_)
  rintro e w2 ⟨ae,C⟩;clear ax;cases af:DB m (A9 rs.data.toList) with
  | ended K =>
   rw[af]at C k;obtain⟨rfl,cw⟩:=C;have M:=j.out.gr;have b3:=Az.other j.out.mem ae j.out.lt;have D:=Aa (show Dy R o w (aH (aN #[aA va d.length X,.nilIface])) w2 from⟨Ar j.out.gr ae,by rw[<-k];exact⟨va,d.length,X,d,rfl,rfl,b3,bf,by have:=j.out.big;have:=j.out.n;omega⟩⟩);clear j b3 k ae cw M;generalize d.length=E at *;go_wp2;rw[aU];go_ret2
   exact D.out
  | bad K =>
   rw[af]at C k;obtain rfl:=C;have D:=Aa (show Dy R o w (aH (aN #[aA aF 0 0,JH K 1])) w2 from⟨Ar j.out.gr ae,by rw[<-k];rfl⟩);clear j k ae;unfold JH at *;generalize d.length=E at *;go_wp2;rw[aU];go_ret2
   exact D.out
  | words K x xs cx =>
   rw[af]at C k;obtain⟨a,c,r,rfl,bg,M,Z,bh⟩:=C;obtain⟨g,rfl⟩:=U6 bh;have a7:=Hs _ _ _ _ _ _ af;have dp:=Ih _ _ _ _ _ _ af;have ay:=j.out.read af ae bg M Z bh;have dq:d.length<=1000000:=by have:=j.out.n;have:=j.out.big;omega
   have dr:=j.out.n;have cy:=Aa j.out.box.ac;have b4:=Yh ay.box (Oh (Az.tail ay.mem)) (by rw[aI];omega) (AG (Az.head ay.mem)) a7.2 a7.1;have a8:=Aa ay;have a9:=Aa (show (if (Cl (BH d) aF x xs).1≠0 then PRes.bad K (Cl (BH d) aF x xs).1 else Bv K (Cl (BH d) aF x xs).2.1 (Cl (BH d) aF x xs).2.2 cx)=o from k);have cz:=Aa bf;have au:=Aa a7;have b5:=Aa bg;clear j k ae bh Z ay af bf a7 bg;have ds:((xs.length:Int)+1==0)=false:=by rw[beq_eq_false_iff_ne];omega
   generalize bi:xs.length=b6 at *;generalize b7:d.length=E at *;have bj:=Aa b7;have b8:=Aa bi;clear b7 bi;go_wp2_with (go_at_call 187;refine b4.mono ?_)
   rintro e w3 ⟨ba,b9⟩;rw[show (d.map DL.b).map BAt.I=BH d from rfl]at b9;clear b4;rcases b9 with ⟨t,rfl⟩ | ⟨t,ag,c0,rfl⟩
   ·have i:=a9.out;rw[if_pos t]at i;generalize (Cl (BH d) aF x xs).1=az at *;have ah:=(aM w3.heap.size w3).alloc (aL _) (aK #[aB ⟨#[]⟩,aB ⟨#[]⟩,aA aF 0 0] 46);have D:=Aa (show Dy R o w (aH (aN #[aA aF 0 0,JH K az])) (w3.alloc (aK #[aB ⟨#[]⟩,aB ⟨#[]⟩,aA aF 0 0] 46)) from⟨Ar a8.out.gr (Ar (A2 ba _) (A2 ah _)),by rw[<-i]⟩);clear a9 a8 i t ba ah;unfold JH at *;go_wp2;rw[aU];go_ret2
    exact D.out
   ·subst c0;have i:=a9.out;rw[if_neg (by rw[t];simp),GC]at i;have ca:=b8.out;obtain rfl:b6=1:=by rw[<-ca];rfl
    have cb:=a8.out.V ba;have ah:=(aM w3.heap.size w3).alloc (aL _) (aK #[aB (Bu x),aB (Bu ag),aA aF 0 0] 46);have bk:=Al w3 (aK #[aB (Bu x),aB (Bu ag),aA aF 0 0] 46);have cc:=Cr (Bu x) (w3.alloc (aK #[aB (Bu x),aB (Bu ag),aA aF 0 0] 46));have cd:=Aa i;have bb:=Aa cb;have c1:=Aa (show (Bu ag).size<=200 from by have:=au.out.2 ag (by simp);show ag.toArray.size<=200;rw[cG];exact this);clear a9 a8 i t ca b8 cb ba au;generalize c2:Bu x=kx at *;generalize c6:Bu ag=p at *;clear c2 c6;have k0:=Ab bk 0;simp only[aD,aC]at k0;go_wp2_with (go_at_call 29;refine cc.mono ?_)
    rintro e c7 ⟨vr,L,rfl,ce,bl,bm⟩;obtain⟨O,P,rfl,_⟩:∃O P,vr=aA O L.length P/\True:=by
     obtain⟨O,P,e,_⟩:=Ak (Az.head bl);exact⟨O,P,e,trivial⟩
    generalize dt:L.length=nl at *;have c8:w.heap.size<=w3.heap.size:=bb.out.gr.size;have cf:=Wz (Az.tail bb.out.mem) c8 ah bk (aL _) bl bm;have J:=Aa (show InR R w N o w3.heap.size K kx p (aA va E X) (aA O nl P) d L c7 from⟨[],aA aF 0 0,r,K,(bb.out.V (ah.trans (bm.mono ah.size))).ah cf,by rw[b5.out];exact cd.out,⟨aL _,by simp⟩,by simp⟩);have bc:=Aa ce;clear cc bl ce cf bm ah bk k0 bb cd b5;generalize du:w3.heap.size=Y at *;obtain⟨bn,c9⟩:∃bn,bn=wr:=⟨_,rfl⟩;subst c9;go_wp2;go_loopw [4] (fun v bo=>v=aA va E X/\InR R w N o Y K kx p (aA va E X) (aA O nl P) d L bo) (fun _ bo=>E7 R bo)
    case atStart=>exact⟨rfl,J.out⟩
    case round =>
     clear J;obtain⟨rfl,ys,lv,da,db,z,k,⟨dv,dw⟩,aa⟩:=hrel;obtain⟨la,lc,rfl⟩:=Jg (FF z.mem);have ax:=Pz z.box z.sz (by rw[z.n];exact z.big);have j:=Aa z;rw[GP]at k;clear z;go_wp2_with (go_at_call 186;refine ax.mono ?_)
     rintro e G ⟨ai,C⟩;clear ax;cases aj:DB db (A9 da.data.toList) with
     | ended q =>
      rw[aj]at C k;obtain⟨rfl,cg⟩:=C;have bp:=Az.other j.out.mem ai j.out.lt;have H:=Ab (Ei bp) 2;have dx:=Ad (Ei bp) 2;simp only[aD,aC,aE]at H;have ab:=Aan (vr:=aA O nl P) (ev:=aA la ys.length lc) cg;have a0:=j.out.Yge;have D:=Aa (show Dy R o w (aH (aN #[aA aF 0 0,JH q 8])) (G.setCell ⟨Y,2,aF⟩ (aA aF 0 0)) from⟨Gy (Ar j.out.gr ai) (AT G Y 2 _) (fun g e=>by cases e;exact a0),by rw[<-k];rfl⟩);clear j k ai cg bp;unfold JH at *;generalize ys.length=F at *;go_wp2_with (go_at_call 188;refine ab.mono ?_;rintro e T ⟨rfl,rfl⟩)
      rw[aU];go_ret2
      exact D.out
     | bad q =>
      rw[aj]at C k;obtain rfl:=C;have D:=Aa (show Dy R o w (aH (aN #[aA aF 0 0,JH q 1])) G from⟨Ar j.out.gr ai,by rw[<-k];rfl⟩);clear j k ai;unfold JH at *;generalize ys.length=F at *;go_wp2;rw[aU];go_ret2
      exact D.out
     | words q l s bd =>
      rw[aj]at C k;obtain⟨a5,c5,bq,rfl,br,dc,ch,bs⟩:=C;obtain⟨I,rfl⟩:=U6 bs;have ac:=Hs _ _ _ _ _ _ aj;have dy:=Ih _ _ _ _ _ _ aj;have f:=j.out.read aj ai br dc ch bs;have dz:=j.out.n;have ci:=Aa j.out.box.ac;have av:=Aa br;obtain⟨d0,d1,dd,de⟩:=(AG (Az.head f.mem)).word 0 (by simp);cases dd
      simp only[bE,bX]at de;clear j ai bs ch aj br;by_cases hend:l=[101,110,100]/\s=[]
      ·obtain⟨rfl,rfl⟩:=hend;have ak:Bv q (BH d++[⟨kx,p,BY ys⟩]) aF bd=o:=by
        have h1:(if (Cl (BH d) (aJ ⟨kx,p,BY ys⟩) [101,110,100] []).1≠0 then PRes.bad q (Cl (BH d) (aJ ⟨kx,p,BY ys⟩) [101,110,100] []).1 else Bv q (Cl (BH d) (aJ ⟨kx,p,BY ys⟩) [101,110,100] []).2.1 (Cl (BH d) (aJ ⟨kx,p,BY ys⟩) [101,110,100] []).2.2 bd)=o:=k;rw[Kn]at h1;simpa using h1
       have bt:=f.ah (Az.tail f.mem);have be:=Ei bt.mem;have cj:=Ab be 0;have ck:=Ab be 1;have H:=Ab be 2;simp only[aD,aC,aE]at cj ck H;obtain⟨i0,df,dg,dh,di⟩:=info_parts Bg;have cl:=(aM G.heap.size G).alloc (aL _) (aK #[aB kx,aB p,aA la ys.length lc] 46);have aw:=bt.V cl;have cm:(G.alloc (aK #[aB kx,aB p,aA la ys.length lc] 46)).ownsRow w.heap.size 46 3 (aA va E X) E ((d.map DL.b).flatMap BAt.cells):=by
        have:=Az.head (YN aw.mem);rw[bj.out]at this;exact this
       have cn:=Bz G #[aB kx,aB p,aA la ys.length lc] 46 3 rfl;have co:∀y∈[cK kx,cK p,bA la ys.length lc],y.oneCell'=true:=by
        intro y n;simp only[bQ,List.not_mem_nil,or_false]at n;rcases n with rfl | rfl | rfl <;> rfl
       have dj:w.heap.size<=(G.alloc (aK #[aB kx,aB p,aA la ys.length lc] 46)).heap.size:=aw.gr.size;have d2:E<=q:=by omega
       have cp:=Aa aw;have a1:=Aa (show (⟨kx,p,aA la ys.length lc,ys⟩:DL).sm from⟨c1.out,by have:=aw.n;have:=aw.big;simp only;omega,aa⟩);have Q:=Aa ak;clear f bt aw ak k aa be cl;generalize al:ys.length=F at *;clear al;simp only[aT,bN]at *;go_wp2_with (at_builtin;refine A8 (by rfl) _ _ 23 (by rfl) w.heap.size 46 i0 _ 3 56 underlying23 df dg dh di rfl (by decide) _ E _ (by rfl) cm _ 1 _ (by rfl) cn co ?c3 ?c4 dj ?_)
       case c3=>unfold maxLen;omega
       case c4=>omega
       intro cq cr cs ct cu bu;have bv:=cp.out.shut (bv':=aA cq (E+1) cr) (by rw[bj.out,bJ,bF];exact ct) cu (by first | exact bu | (rw[bM];exact bu))
       have ad:E7 R cs<E7 R bn:=by rw[bv.box.ac,cy.out,av.out];omega
       have J:=Aa (show Afg R w N o (aA cq (E+1) cr) cs from⟨d++[⟨kx,p,aA la F lc,ys⟩],bq,q,bv,by rw[H9,av.out];exact Q.out,by rw[bK,bj.out];simp only[aZ,aT];omega,fun b Z=>by
        rcases bO.1 Z with Z | Z
        ·exact cz.out b Z
        ·rw[aS.1 Z];exact a1.out⟩)
       have a2:=Aa ad;clear cm cn co ct cu bu bv ad cp cj ck H;go_wp2;go_roundw;case rel=>exact J.out
       case measure=>exact a2.out
      ·have ak:(if lineFault (rulesOf kx) (BY ys) ⟨Bu l,s⟩≠0 then PRes.bad q (lineFault (rulesOf kx) (BY ys) ⟨Bu l,s⟩) else Bv q (BH d) (aJ ⟨kx,p,BY ys++[⟨Bu l,s⟩]⟩) bd)=o:=by
        have h1:(if (Cl (BH d) (aJ ⟨kx,p,BY ys⟩) l s).1≠0 then PRes.bad q (Cl (BH d) (aJ ⟨kx,p,BY ys⟩) l s).1 else Bv q (Cl (BH d) (aJ ⟨kx,p,BY ys⟩) l s).2.1 (Cl (BH d) (aJ ⟨kx,p,BY ys⟩) l s).2.2 bd)=o:=k;rw[MQ hend]at h1;exact h1
       clear k;by_cases bw:s.length=0
       ·have dk:(l==[101,110,100])=false:=by
         rw[beq_eq_false_iff_ne];intro e;exact hend ⟨e,bT.1 bw⟩
        obtain rfl:=bT.1 bw;clear bw hend;have ab:Calls prog 188 #[aR (aJ ⟨R,0,aF⟩),aA O nl P,aA la ys.length lc,aA (aJ ⟨I,0,aF⟩) (([]:List (List UInt8)).length+1) c5] G fun e w'=>GS (rulesOf kx) w.heap.size (aA la ys.length lc) (ys.map Dh.l) q l ([]:List (List UInt8)) (Dh.ta ⟨I,c5,l,([]:List (List UInt8))⟩) c5 G e w':=by
         have:=Xc (R:=R) (B:=w.heap.size) (m:=q) (g:=I) (wc:=c5) (x:=l) (xs:=([]:List (List UInt8))) (ta:=Dh.ta ⟨I,c5,l,([]:List (List UInt8))⟩) (es:=ys.map Dh.l) (ea:=la) (ec:=lc) f.box (Oj (Az.tail f.mem)) (by rw[bc.out];exact Bf _) (by rw[aI];exact Az.head (FF (Az.tail f.mem))) f.gr.size (fun bx M=>by obtain⟨y,n,rfl⟩:=aY.1 M;exact Sf ((FF (Az.tail f.mem)).1 y.r (aV _ (bI n)))) (by rw[aI];have:=f.n;have:=f.big;omega) (fun bx M=>by obtain⟨y,n,rfl⟩:=aY.1 M;exact aP (aa y n).1 (by decide)) (AG (Az.head f.mem)) ac.2 ac.1 rfl (b2.out _ f.gr);rw[bc.out,aI]at this;exact this
        have H:=Ab (Ei (Az.tail f.mem)) 2;simp only[aD,aC,aE]at H;have u:=Aa f;have a1:=Aa aa;have au:=Aa (show (⟨I,c5,l,([]:List (List UInt8))⟩:Dh).sm from ac);have Q:=Aa ak;clear f aa ac ak;generalize al:ys.length=F at *;simp only[aT,bN]at ab⊢;have S:=Aa al;clear al;go_wp2_with (go_at_call 188;refine ab.mono ?_)
        rintro e T am;clear ab;unfold GS at am;rw[show (ys.map Dh.l).map LAt.I=BY ys from rfl]at am;rcases am with ⟨t,rfl,an⟩ | ⟨t,U,V,rfl,ao,W1,a3,a4,ap⟩
        ·have i:=Q.out;have A:=(an.block Y (aQ.1 (Ei (Az.tail u.out.mem))).1).trans (Ei (Az.tail u.out.mem));have aq:=Ab A 2;have bz:=Ad A 2;simp only[aD,aC,aE]at aq;rw[if_pos t]at i;have a0:=(u.out.ah (Az.tail u.out.mem)).Yge;generalize lineFault (rulesOf kx) (BY ys) ⟨Bu l,([]:List (List UInt8))⟩=az at *;have D:=Aa (show Dy R o w (aH (aN #[aA aF 0 0,JH q az])) (T.setCell ⟨Y,2,aF⟩ (aA aF 0 0)) from⟨Gy (Ar u.out.gr (A2 an _)) (AT T Y 2 _) (fun g e=>by cases e;exact a0),by rw[<-i]⟩);clear Q u i t an A H;unfold JH at *;go_wp2;rw[aU];go_ret2
         exact D.out
        ·have i:=Q.out;rw[if_neg (by rw[t];simp)]at i;rw[aI,S.out]at ao;obtain⟨ar,A⟩:=u.out.added (lv':=aA U (F+1) V) a3 (by rw[S.out];exact ao) a4 (by rw[aI,S.out]at ap;exact ap);have aq:=Ab A 2;have bz:=Ad A 2;simp only[aD,aC,aE]at aq;have a6:=ar.box.ac;have J:=Aa (show InR R w N o Y K kx p (aA va E X) (aA O nl P) d L (T.setCell ⟨Y,2,aF⟩ (aA U (F+1) V)) from⟨ys++[⟨I,c5,l,([]:List (List UInt8))⟩],aA U (F+1) V,bq,q,ar,by rw[av.out];rw[Ly];exact i,⟨by omega,by simp;have:=S.out;omega⟩,fun y n=>by
          rcases bO.1 n with n | n
          ·exact a1.out y n
          ·rw[aS.1 n];exact au.out⟩)
         have ad:E7 R (T.setCell ⟨Y,2,aF⟩ (aA U (F+1) V))<E7 R wr:=by rw[a6,ci.out,av.out];omega
         have a2:=Aa ad;clear Q u i t ar A ao a4 ap a3 H a6 ad;rw[aI,S.out];go_wp2;go_roundw;case rel=>exact⟨rfl,J.out⟩
         case measure=>exact a2.out
       ·have dk:(((s.length:Int)+1)==1)=false:=by rw[beq_eq_false_iff_ne];omega
        have ab:Calls prog 188 #[aR (aJ ⟨R,0,aF⟩),aA O nl P,aA la ys.length lc,aA (aJ ⟨I,0,aF⟩) (s.length+1) c5] G fun e w'=>GS (rulesOf kx) w.heap.size (aA la ys.length lc) (ys.map Dh.l) q l s (Dh.ta ⟨I,c5,l,s⟩) c5 G e w':=by
         have:=Xc (R:=R) (B:=w.heap.size) (m:=q) (g:=I) (wc:=c5) (x:=l) (xs:=s) (ta:=Dh.ta ⟨I,c5,l,s⟩) (es:=ys.map Dh.l) (ea:=la) (ec:=lc) f.box (Oj (Az.tail f.mem)) (by rw[bc.out];exact Bf _) (by rw[aI];exact Az.head (FF (Az.tail f.mem))) f.gr.size (fun bx M=>by obtain⟨y,n,rfl⟩:=aY.1 M;exact Sf ((FF (Az.tail f.mem)).1 y.r (aV _ (bI n)))) (by rw[aI];have:=f.n;have:=f.big;omega) (fun bx M=>by obtain⟨y,n,rfl⟩:=aY.1 M;exact aP (aa y n).1 (by decide)) (AG (Az.head f.mem)) ac.2 ac.1 rfl (b2.out _ f.gr);rw[bc.out,aI]at this;exact this
        have H:=Ab (Ei (Az.tail f.mem)) 2;simp only[aD,aC,aE]at H;have u:=Aa f;have a1:=Aa aa;have au:=Aa (show (⟨I,c5,l,s⟩:Dh).sm from ac);have Q:=Aa ak;clear f aa ac ak;generalize al:ys.length=F at *;generalize bi:s.length=b6 at *;have S:=Aa al;clear al;go_wp2_with (go_at_call 188;refine ab.mono ?_)
        rintro e T am;clear ab;unfold GS at am;rw[show (ys.map Dh.l).map LAt.I=BY ys from rfl]at am;rcases am with ⟨t,rfl,an⟩ | ⟨t,U,V,rfl,ao,W1,a3,a4,ap⟩
        ·have i:=Q.out;have A:=(an.block Y (aQ.1 (Ei (Az.tail u.out.mem))).1).trans (Ei (Az.tail u.out.mem));have aq:=Ab A 2;have bz:=Ad A 2;simp only[aD,aC,aE]at aq;rw[if_pos t]at i;have a0:=(u.out.ah (Az.tail u.out.mem)).Yge;generalize lineFault (rulesOf kx) (BY ys) ⟨Bu l,s⟩=az at *;have D:=Aa (show Dy R o w (aH (aN #[aA aF 0 0,JH q az])) (T.setCell ⟨Y,2,aF⟩ (aA aF 0 0)) from⟨Gy (Ar u.out.gr (A2 an _)) (AT T Y 2 _) (fun g e=>by cases e;exact a0),by rw[<-i]⟩);clear Q u i t an A H;unfold JH at *;go_wp2;rw[aU];go_ret2
         exact D.out
        ·have i:=Q.out;rw[if_neg (by rw[t];simp)]at i;rw[aI,S.out]at ao;obtain⟨ar,A⟩:=u.out.added (lv':=aA U (F+1) V) a3 (by rw[S.out];exact ao) a4 (by rw[aI,S.out]at ap;exact ap);have aq:=Ab A 2;have bz:=Ad A 2;simp only[aD,aC,aE]at aq;have a6:=ar.box.ac;have J:=Aa (show InR R w N o Y K kx p (aA va E X) (aA O nl P) d L (T.setCell ⟨Y,2,aF⟩ (aA U (F+1) V)) from⟨ys++[⟨I,c5,l,s⟩],aA U (F+1) V,bq,q,ar,by rw[av.out];rw[Ly];exact i,⟨by omega,by simp;have:=S.out;omega⟩,fun y n=>by
          rcases bO.1 n with n | n
          ·exact a1.out y n
          ·rw[aS.1 n];exact au.out⟩)
         have ad:E7 R (T.setCell ⟨Y,2,aF⟩ (aA U (F+1) V))<E7 R wr:=by rw[a6,ci.out,av.out];omega
         have a2:=Aa ad;clear Q u i t ar A ao a4 ap a3 H a6 ad;rw[aI,S.out];go_wp2;go_roundw;case rel=>exact⟨rfl,J.out⟩
         case measure=>exact a2.out
