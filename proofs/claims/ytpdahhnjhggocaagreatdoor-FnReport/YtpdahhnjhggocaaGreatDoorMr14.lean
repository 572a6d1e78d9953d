import Derived.Test.YtpdahhnjhggocaaGreatDoorMr13
import Derived.Deep.CutBlock
open Go.Proofs.Tryz
open Go.Value renaming slice->aA,agg->bJ,string->bM
open List renaming getElem?_cons_zero->aB,getElem?_toArray->aC,getElem?_cons_succ->aD,setIfInBounds_toArray->aK,mem_singleton->aL,mem_cons->aN,set_cons_zero->aP,set_cons_succ->aQ,mem_append->aS,not_mem_nil->aV
open Go.Obj renaming cells->aE
open Option renaming none->aF,some->aI,isSome_iff_exists->aM
open Nat renaming le_refl->aG,lt_irrefl->aW,le_trans->bH,le_of_eq->bI,add_zero->bP
open Array renaming getElem?_eq_some_iff->aH
open Go.RowKit.Below renaming refl->aJ
open Option.some renaming inj->aO
open Go.Operand renaming tmp->aR
open Go renaming wpList_store_row->aT,setRow_heap->aX,heap_setCell_same->aZ,bodyPost_ret->bA,info_parts->bG,wpList->bK,heap_setCell_other->bL,results->bN
open UInt8 renaming ofNat->aU
open Go.World renaming size_alloc->aY,setRow->bE
open ByteArray renaming size_append->bB
open Go.Ending renaming returned->bC
open Go.Op renaming store->bD
open Go.Oper renaming mk->bF
open Go.World.grownBy renaming refl->bO
namespace Go.Proofs.YtpdahhnjhggocaaGreatDoor
open Go.RowKit
set_option maxHeartbeats 16000000
set_option maxRecDepth 100000
variable {w:World}{B p k kk d q:Nat}{v:Value}{bs:List BAt}
theorem Nw(w:World):Am w (aA aF 0 0) 0 2 []:=⟨rfl,aF,0,rfl,⟨aG _,Nat.zero_le _⟩,.inl rfl⟩
theorem V5{a:World}(r:Rd B a p kk)(s:kk<=k+d)(j:w.grownBy a (aI p))(z:p<w.heap.size)(A:w.heap.size+2<=a.heap.size)(cs:Array Value):Ec d B p k w (bC (bJ #[aA (aI ⟨a.heap.size,0,aF⟩) 1 1])) ((a.alloc (aE #[.string ⟨#[]⟩,.string ⟨#[]⟩,aA aF 0 0] 46)).setRow (w.heap.size+1) cs):=by
 have f:=Br (a.alloc (aE #[.string ⟨#[]⟩,.string ⟨#[]⟩,aA aF 0 0] 46)) (w.heap.size+1) cs;have g:=(aJ a.heap.size a).alloc (aG _) (aE #[.string ⟨#[]⟩,.string ⟨#[]⟩,aA aF 0 0] 46);have t:=Bn a #[.string ⟨#[]⟩,.string ⟨#[]⟩,aA aF 0 0] 46 3 rfl;refine⟨_,1,1,[⟨⟨#[]⟩,⟨#[]⟩,aA aF 0 0,[]⟩],kk,rfl,s,?_,⟨?_,?_,?_,?_,fun i l u=>?_⟩,⟨?_,?_⟩,⟨?_,by simp⟩,fun q o=>⟨?_,?_⟩⟩
 ·exact AJ.rd (r.V g) (AJ.ag (S:=[w.heap.size+1]) f (fun q o=>by cases o;simp)) (fun i l=>by rw[aL.1 l];omega)
 ·exact f.os.trans (g.os.trans j.os)
 ·exact f.tape.trans (g.tape.trans j.tape)
 ·exact f.output.trans (g.output.trans j.output)
 ·have:=f.size;have:=g.size;omega
 ·rw[f.block i (by have:=g.size;omega) (by intro e;cases e;omega),g.block i (by omega)];exact j.block i l u
 ·exact Am.aj t (.inr fun b off m c e=>by cases e;show a.heap.size≠w.heap.size+1;omega) f
 ·intro b n;rw[aL.1 n];exact⟨Nw _,by intro x h;cases h⟩
 ·intro b n;rw[aL.1 n];exact⟨by decide,by decide,by simp,by intro x h;cases h⟩
 ·exact .inr fun b off m c e=>by cases e;show a.heap.size≠q;omega
 ·intro x h;rw[aL.1 h];exact⟨.inl rfl,by intro y v;cases v⟩
theorem Ax.apart(h:Ax B w v bs)(c:w.heap.size<=q):A7 q v bs :=
 ⟨Bx.of_own h.row (fun e=>by have:=(h.row.lt q e).2;omega),fun x a=>⟨Bx.of_own (h.ac x a).row (fun e=>by have:=((h.ac x a).row.lt q e).2;omega),fun y b=>Bx.of_own ((h.ac x a).words y b) (fun e=>by have:=(((h.ac x a).words y b).lt q e).2;omega)⟩⟩
theorem Aea(u:ByteArray)(h:u∈([⟨#[]⟩,⟨#[65]⟩,⟨#[122,122]⟩]:List ByteArray)):u.size<=20:=by
 simp only[aN,aV,or_false]at h;rcases h with rfl|rfl|rfl <;> decide
theorem Aeb(u:ByteArray)(h:u∈([⟨#[]⟩,⟨#[110,111,110,101]⟩,⟨#[116,101,97,109]⟩]:List ByteArray)):u.size<=20:=by
 simp only[aN,aV,or_false]at h;rcases h with rfl|rfl|rfl <;> decide
def Aec(B p c X Y:Nat)(w1:World)(D:List BAt)(y:BAt)(kk:Nat)(W:World):Prop:=∃(T:List BAt) (g n b kk':Nat) (bk bn:ByteArray) (a:Option Addr) (m d:Nat) (ls:List LAt),kk'<=kk+80/\Fh B p c X Y w1 D T y g n b kk' bk bn (aA a m d) ls W
theorem TJ(B p k:Nat)(w:World)(h:Rd B w p k)(ia:k<=500000)(c7:Au w v bs)(ib:bs.length<=60)(c8:∀b∈bs,CO b)(eo:∀b∈bs,El b):Calls prog 104 #[.pointer (aI ⟨p,0,aF⟩),bJ #[v]] w fun e w'=>Ec 100 B p k w e w':=by
 obtain⟨sa,sc,rfl⟩:=c7.1.ad;have ep:=h.lt;have eq:=Ct (w:=w) (cs:=#[aA sa bs.length sc]) (ds:=#[aA aF 0 0]) (T:=25) (U:=25);have c0:=eq.1 0;simp only[aC,aB]at c0;clear eq;have b6:Below w.heap.size w ((w.alloc (aE #[aA sa bs.length sc] 25)).alloc (aE #[aA aF 0 0] 25)):=((aJ _ _).alloc (aG _) _).alloc (by simp) _;have bu:=Ai (w.alloc (aE #[aA sa bs.length sc] 25)) (aE #[aA aF 0 0] 25);have gj:((w.alloc (aE #[aA sa bs.length sc] 25)).alloc (aE #[aA aF 0 0] 25)).heap.size=w.heap.size+2:=by simp
 simp only[aY]at bu;have er:=h.V b6;have gl:=Ar b6 (aI p);have gm:=Ab bu;have es:=Di (c7.V b6) (GE (by omega) c8);have et:=Ab c8;have gn:=Ab eo;clear c7 c8 eo;generalize eu:bs.length=go at *;have gp:=Ab eu;clear eu;generalize ev:(w.alloc (aE #[aA sa go sc] 25)).alloc (aE #[aA aF 0 0] 25)=w1 at *;go_enter func104,ntmps104;go_wp2_with (go_at_call 55;(try rw[ev]);refine es.mono ?_)
 first|rintro e w2 v2 rfl L bv o2 a8|rintro e w2 v2 L rfl bv o2 a8|rintro e w2 ⟨v2,L,rfl,bv,o2,a8⟩
 have ew:=Ab (Hr (fun b ar=>(et.out b ar).t (gn.out b ar)) bv);have gq:=Ab (KR et.out bv);have gr:L.length<=60:=by have:=congrArg List.length bv;simp at this;have:=gp.out;omega
 obtain⟨xa,xc,rfl,ex⟩:=Al o2.row;have ey:=Ab ex;have ez:=a8.size;have c9:=(aJ w2.heap.size w2).alloc (aG _) (aE #[aA xa L.length xc] 25);have cq:=Ai w2 (aE #[aA xa L.length xc] 25);have c3:=Aa cq 0;simp only[aC,aB]at c3;have da:=(er.V a8).V c9;have a9:=Ab o2;have db:=a8.trans (c9.mono a8.size);have a4:=T9 B p k L.length (w2.alloc (aE #[aA xa L.length xc] 25)) da (by omega) (by omega);have ic:(w2.alloc (aE #[aA xa L.length xc] 25)).heap.size=w2.heap.size+1:=by simp
 have e0:=(db.block (w.heap.size+1) (by omega)).trans bu;have gs:=Ar (b6.trans (db.mono b6.size)) (aI p);have gt:=Ar db (aI p);clear es o2 bv ex c0 bu er a8 ev c9;generalize e1:L.length=C at *;have dc:=Ab e1;clear e1;generalize bw:w2.alloc (aE #[aA xa C xc] 25)=W3 at *;go_wp2_with (go_at_call 44;(try rw[bw]);refine a4.mono ?_)
 rintro e W4 ⟨kx,gu,rfl,dd,ba⟩;have de:p<w2.heap.size:=by omega
 have c4:=(ba.cell_far ⟨w2.heap.size,0,aF⟩ (by rw[<-bw];simp) (by intro e;cases e;exact absurd de (aW _))).trans c3;have gv:=Ah gs ba;have gw:=Ah gt ba;have ie:=ba.size;have e2:=(ba.block (w.heap.size+1) (by omega) (by intro e;cases e;omega)).trans e0;by_cases bb:C=0
 ·subst bb;have au:=Ab (V5 (d:=100) (k:=k) dd (by omega) gv ep (by omega) #[aA (aI ⟨W4.heap.size,0,aF⟩) 1 1]);have e3:(W4.alloc (aE #[.string ⟨#[]⟩,.string ⟨#[]⟩,aA aF 0 0] 46)).heap[w.heap.size+1]?=aI (aE #[aA aF 0 0] 25 (0,0)):=by rw[Cs _ _ _ (by omega)];exact e2
  clear a4 c3 cq da a9 bw;go_wp2_with (with_reducible show bK _ _ _ (bF _ (bD _ (aR 4) _) _ _ _ _::_) _ _;refine aT rfl 25 _ _ rfl (w.heap.size+1) #[aA (aI ⟨W4.heap.size,0,aF⟩) 1 1] ?_ ?_ 25 _ e3 ?_ ?_ ?_ ?_)
  all_goals (first|rfl|kernel_rfl|exact Bg|skip)
  have z5:((W4.alloc (aE #[.string ⟨#[]⟩,.string ⟨#[]⟩,aA aF 0 0] 46)).setRow (w.heap.size+1) #[aA (aI ⟨W4.heap.size,0,aF⟩) 1 1]).heap[w.heap.size+1]?=aI (aE #[aA (aI ⟨W4.heap.size,0,aF⟩) 1 1] 25 (0,0)):=aX _ _ _ _ _ _ e3;have bc:=Aa z5 0;simp only[aC,aB]at bc;generalize bE _ _ _=W at au bc z5⊢;exact bA (v:=bJ #[aA (aI ⟨W4.heap.size,0,aF⟩) 1 1]) (by simp[bN,results104,go_sem,bc]) rfl au.out
 ·have ig:((C:Int)==0)=false:=by rw[beq_eq_false_iff_ne];omega
  have ih:kx<C:=by
   rcases gu with h1|h1
   ·exact h1
   ·exact absurd h1.1 bb
  obtain⟨g,rfl⟩:∃g,xa=aI ⟨g,0,aF⟩:=by
   rcases ey.out with df|df
   ·exact absurd df bb
   ·exact df
  obtain⟨D,y,T,b7,e4⟩:=AC L kx (by have:=dc.out;omega);have dg:=a9.out.V ((aJ w2.heap.size w2).alloc (aG _) (aE #[aA (aI ⟨g,0,aF⟩) C xc] 25));rw[bw]at dg;have cr:Ax w1.heap.size W4 (aA (aI ⟨g,0,aF⟩) C xc) L:=Ay.other dg ba (by omega);have ii:g<w2.heap.size:=(a9.out.row.lt g rfl).2;have ij:w1.heap.size<=g:=(a9.out.row.lt g rfl).1;have e5:(D++y::T).length=C:=by rw[<-b7];exact dc.out
  have dh:=cr;rw[b7]at dh;have ct:=dh.brow;have e6:=ct.cell 0 (by decide);have e7:=ct.cell 1 (by decide);have e8:=ct.cell 2 (by decide);simp only[BAt.cells,aB,aD,bP,e4]at e6 e7 e8;have di:=Ab (show ∀x∈L,∀q,w2.heap.size<=q->Aw q x.v x.ls from fun x a q ae=>(a9.out.apart ae).2 x a);have dj:=Ab (show ∀x∈L,∀q,q<w1.heap.size->Aw q x.v x.ls from fun x a q ae=>(a9.out.aj ae).2 x a);have e9:=Ab (show ∀x∈L,Aw g x.v x.ls from fun x a=>(a9.out.brow.2 x a).2 g rfl);have b8:y∈L:=by rw[b7];simp
  obtain⟨c,yc,gx⟩:=(cr.ac y b8).lin.1.ad;have dk:=gq.out y b8;have fa:=ew.out y b8;have fb:=(ba.block w2.heap.size (by rw[<-bw];simp) (by intro e;cases e;exact absurd de (aW _))).trans cq;have cu:=Ab b7;have fc:=Ab cr;have ik:(0:Int)<=(kx:Int):=by omega
  have i2:(kx:Int)<(C:Int):=by omega
  obtain⟨yk,yn,yv,o⟩:=y;simp only at *;subst gx;have b9:=(aJ W4.heap.size W4).alloc (aG _) (aE #[.string yk,.string yn,aA c o.length yc] 46);have dl:=Ai W4 (aE #[.string yk,.string yn,aA c o.length yc] 46);have dm:=Aa dl 2;simp only[aC,aB,aD]at dm;have gy:=dk.2.1;have ca:=T9 B p (k+1) o.length (W4.alloc (aE #[.string yk,.string yn,aA c o.length yc] 46)) (dd.V b9) (by simp only at gy;omega) (by omega);have cb:=Ab dk;have fd:=Ab fa;have il:(W4.alloc (aE #[.string yk,.string yn,aA c o.length yc] 46)).heap.size=W4.heap.size+1:=by simp
  have gz:p<W4.heap.size:=by omega
  clear a4 dg cr dh ct ey b7 dk fa c3 cq da bw;generalize fe:o.length=nl at *;have af:=Ab fe;clear fe;generalize ff:W4.alloc (aE #[.string yk,.string yn,aA c nl yc] 46)=im at *;go_wp2_with (go_at_call 44;(try rw[ff]);refine ca.mono ?_)
  rintro e g0 ⟨nI,dn,rfl,fg,fh⟩;have fi:=A1 B p (k+1+1) 9 g0 fg (by omega) (by omega) (by omega);clear ca e6 e7 e8 c4;go_wp2_with (go_at_call 44;refine fi.mono ?_)
  rintro e z ⟨av,io,rfl,fj,fk⟩;have bx:=Ah fh fk;have ip:=bx.size;have fl:=Ar b9 (aI p);have F:=Ab (show Ax w1.heap.size z (aA (aI ⟨g,0,aF⟩) C xc) (D++⟨yk,yn,aA c nl yc,o⟩::T) from by
   rw[<-cu.out];exact Ay.other (fc.out.V b9) bx (by omega))
  have fm:=Ab (show ∀x∈L,∀q∈[g,w2.heap.size,W4.heap.size],Aw q x.v x.ls from fun x a q ae=>by
   simp only[aN,aV,or_false]at ae;rcases ae with rfl|rfl|rfl
   ·exact e9.out x a
   ·exact di.out x a _ (aG _)
   ·exact di.out x a _ (by omega))
  have K:=Ab (show Fh B p w1.heap.size w2.heap.size W4.heap.size w1 D T ⟨yk,yn,aA c nl yc,o⟩ g C xc (k+1+1+1) yk yn (aA c nl yc) o z from
   ⟨fj,Ah gw (Ah fl bx),by omega,rfl,(bx.block w2.heap.size (by omega) (by intro e;cases e;exact absurd de (aW _))).trans ((b9.block w2.heap.size (by omega)).trans fb),(bx.block W4.heap.size (by omega) (by intro e;cases e;exact absurd gz (aW _))).trans dl,by omega,by omega,by omega,by omega,by omega,by
     have:=F.out.row;rw[e5]at this;exact this,e5,by omega,fun x a=>⟨⟨(F.out.ac x (by simp only[aS,aN]at a⊢;rcases a with a|a;exact .inl a;exact .inr (.inr a))).lin,fm.out x (by rw[cu.out];simp only[aS,aN]at a⊢;rcases a with a|a;exact .inl a;exact .inr (.inr a)),fun q ae=>dj.out x (by rw[cu.out];simp only[aS,aN]at a⊢;rcases a with a|a;exact .inl a;exact .inr (.inr a)) q ae⟩,(ew.out x (by rw[cu.out];simp only[aS,aN]at a⊢;rcases a with a|a;exact .inl a;exact .inr (.inr a)))⟩,⟨⟨(F.out.ac ⟨yk,yn,aA c nl yc,o⟩ (by simp)).lin,fm.out _ b8,dj.out _ b8⟩,fd.out⟩⟩)
  clear fj fh fk bx fg dd b9 dl dm fc fb ff fi e2 e0 fl dj e9 di;have dp:w1.heap.size=w.heap.size+2:=gj;generalize iq:w2.heap.size=X at *;generalize ir:W4.heap.size=Y at *;go_upto_block 0 with fail
  go_cut [] from 9 to 192 (fun g1=>Aec B p w1.heap.size X Y w1 D ⟨yk,yn,aA c nl yc,o⟩ (k+1+1+1) g1)
  case first =>
   have f:=K.out;have it:p<Y:=by omega
   rcases(show av=0\/av=1\/av=2\/av=3\/av=4\/av=5\/av=6\/av=7\/av=8 by omega) with rfl|rfl|rfl|rfl|rfl|rfl|rfl|rfl|rfl
   ·have Z:=(aJ z.heap.size z).alloc (aG _) (aE (([⟨#[]⟩,⟨#[110,111,110,101]⟩,⟨#[116,101,97,109]⟩]:List ByteArray).map bM).toArray 9);have cc:=A1 B p (k+1+1+1) 3 _ (f.rd.V Z) (by omega) (by omega) (by omega);have P:=Ab (f.V Z);have g2:p<z.heap.size:=f.rd.lt;clear f K F;go_wp2_with (go_at_call 44;refine cc.mono ?_)
    rintro e N ⟨aa,ab,rfl,cd,bd⟩;obtain⟨u,ce,g3⟩:=Wi z N [⟨#[]⟩,⟨#[110,111,110,101]⟩,⟨#[116,101,97,109]⟩] aa p ab bd (by omega);have I:=P.out.grown bd cd;have be:=Aa I.yb 0;have dq:=Ac I.yb 0;simp only[aC,aB]at be;have ag:N.grownBy (N.setCell ⟨Y,0,aF⟩ (.string u)) (aI Y):=⟨rfl,rfl,rfl,by simp,fun i _ aw=>bL N ⟨Y,0,aF⟩ i _ (fun e=>aw (by simp[e]))⟩;have cf:(N.setCell ⟨Y,0,aF⟩ (.string u)).heap[Y]?=aI (aE #[.string u,.string yn,aA c nl yc] 46 (0,0)):=by rw[aZ N Y 0 _ _ _ I.yb];rfl
    have ax:=Ab (I.head (bk':=u) (bn':=yn) cf ⟨Aeb u ce,cb.out.1⟩ ag);have z3:(aa:Int)<3:=by omega
    have z0:(0:Int)<=(aa:Int):=by omega
    clear cc P I cd bd ag cf ce Z;go_wp2_with fail
    go_meet;exact⟨T,g,C,xc,_,u,yn,c,nl,yc,o,by omega,ax.out⟩
   ·have Z:=(aJ z.heap.size z).alloc (aG _) (aE (([⟨#[]⟩,⟨#[65]⟩,⟨#[122,122]⟩]:List ByteArray).map bM).toArray 9);have cc:=A1 B p (k+1+1+1) 3 _ (f.rd.V Z) (by omega) (by omega) (by omega);have P:=Ab (f.V Z);have g2:p<z.heap.size:=f.rd.lt;clear f K F;go_wp2_with (go_at_call 44;refine cc.mono ?_)
    rintro e N ⟨aa,ab,rfl,cd,bd⟩;obtain⟨u,ce,g3⟩:=Wi z N [⟨#[]⟩,⟨#[65]⟩,⟨#[122,122]⟩] aa p ab bd (by omega);have I:=P.out.grown bd cd;have be:=Aa I.yb 1;have dq:=Ac I.yb 1;simp only[aC,aB,aD]at be;have ag:N.grownBy (N.setCell ⟨Y,1,aF⟩ (.string u)) (aI Y):=⟨rfl,rfl,rfl,by simp,fun i _ aw=>bL N ⟨Y,1,aF⟩ i _ (fun e=>aw (by simp[e]))⟩;have cf:(N.setCell ⟨Y,1,aF⟩ (.string u)).heap[Y]?=aI (aE #[.string yk,.string u,aA c nl yc] 46 (0,0)):=by rw[aZ N Y 1 _ _ _ I.yb];rfl
    have ax:=Ab (I.head (bk':=yk) (bn':=u) cf ⟨fd.out.1,bH (Aea u ce) (by decide)⟩ ag);have z3:(aa:Int)<3:=by omega
    have z0:(0:Int)<=(aa:Int):=by omega
    clear cc P I cd bd ag cf ce Z;go_wp2_with fail
    go_meet;exact⟨T,g,C,xc,_,yk,u,c,nl,yc,o,by omega,ax.out⟩
   ·have Z:=(aJ z.heap.size z).alloc (aG _) (aE #[.string yk,.string yn,aA c nl yc] 46);have ah:=Bn z #[.string yk,.string yn,aA c nl yc] 46 3 rfl;have P:=f.V Z;have dr:=Aa f.xb 0;have dt:=Aa f.yb 0;have bz:=Aa f.yb 1;have aj:=Aa f.yb 2;simp only[aC,aB,aD]at dr dt bz aj;obtain⟨i0,aw,du,dv,dw⟩:=bG Cj;have ac:=P.row;have fn:=P.mine;have g4:X<z.heap.size:=(aH.1 f.xb).1;have g5:Y<z.heap.size:=(aH.1 f.yb).1;have dx:w1.heap.size<=z.heap.size:=f.gr.size;have ad:=Ab P;clear f K F P;go_wp2_with (at_builtin;refine AD (by rfl) _ _ 23 (by rfl) w1.heap.size 46 i0 _ 3 56 underlying23 aw du dv dw rfl (by decide) _ C _ (by rfl) ac _ 1 _ (by rfl) ah (by intro aa ab;simp at ab;rcases ab with rfl|rfl|rfl <;> rfl) ?c3 ?c4 (by simp;omega) ?_)
    case c3=>unfold maxLen;omega
    case c4=>omega
    intro bf an O ao ap a5;obtain⟨Q,rfl⟩:∃Q,bf=aI ⟨Q,0,aF⟩:=by
     obtain⟨a',iu,g6,aq⟩:=Al ao;cases g6
     rcases aq with aq|aq
     ·omega
     ·exact aq
    have bg:Q=g\/(z.alloc (aE #[.string yk,.string yn,aA c nl yc] 46)).heap.size<=Q:=by
     rcases a5 with e|e
     ·left;exact aO e
     ·right;rw[aY];exact bI (aO e).symm
    have dy:(z.alloc (aE #[.string yk,.string yn,aA c nl yc] 46)).heap.size=z.heap.size+1:=by simp
    have cv:=Ab (ad.out.push (z:=⟨yk,yn,aA c nl yc,o⟩) (g':=Q) (cap':=an) ap (by simpa [dp,BAt.cells] using ao) fn bg (by rcases bg with e|e;rw[e];exact ad.out.gX;omega) (by rcases bg with e|e;rw[e];exact ad.out.gY;omega) (by omega));have bh:=(ap.block X (by omega) (by intro e;have:=aO e;exact ad.out.gX this.symm)).trans ad.out.xb;have be:=Aa bh 0;have dq:=Ac bh 0;simp only[aC,aB]at be;clear ao ap a5 ac ah fn ad Z;go_wp2_with fail
    go_meet;exact⟨T++[⟨yk,yn,aA c nl yc,o⟩],Q,C+1,an,_,yk,yn,c,nl,yc,o,by omega,cv.out⟩
   ·have aj:=Aa f.yb 2;simp only[aC,aB,aD]at aj;by_cases ay:nl=0
    ·have bi:¬(0:Int)<(nl:Int):=by omega
     clear f F;go_wp2_with fail
     go_meet;exact⟨T,g,C,xc,_,yk,yn,c,nl,yc,o,by omega,K.out⟩
    ·have bi:(0:Int)<(nl:Int):=by omega
     have fo:nI<nl:=by
      rcases dn with h|h
      ·exact h
      ·exact absurd h.1 ay
     have i3:(0:Int)<=(nI:Int):=by omega
     have i4:(nI:Int)<(nl:Int):=by omega
     obtain⟨A,x,E,R,az⟩:=AC o nI (by have:=af.out;omega);obtain⟨l,rfl⟩:∃l,c=aI ⟨l,0,aF⟩:=Ku (F.out.ac ⟨yk,yn,aA c nl yc,o⟩ (by simp)).row (fun aq=>ay (af.out.symm.trans aq));have bj:=af.out;have a4:=fun n (fp:n<=k+1+1+1) W (cg:Rd B W p n)=>A1 B p n 3 W cg (by omega) (by omega) (by omega)
     have M:=Ab (show OY B p w1.heap.size X Y w1 D T ⟨yk,yn,aA (aI ⟨l,0,aF⟩) nl yc,A++x::E⟩ g C xc yk yn (k+1+1+1) z from by rw[<-R];exact⟨f,F.out⟩);have ai:(A++x::E).length=nl:=by rw[<-R];exact bj
     have b0:=Ab R;have bl:=Ab ai;have ch:=Ab az;clear f F R ai az bj K;go_upto_region 20 with fail
     refine Rq M.out (by omega) ch.out bl.out (by kernel_rfl) (by kernel_rfl) (by kernel_rfl) (by kernel_rfl) ?_;intro v u k' W' a' S fq ak;simp only[An,CY,aK,aP,aQ]at S;subst S;rw[<-b0.out]at ak;have ci:=Ab ak;clear ak M a4;go_wp2_with fail
     go_meet;exact⟨T,g,C,xc,_,yk,yn,aI ⟨l,0,aF⟩,nl,yc,_,by omega,ci.out⟩
   ·have aj:=Aa f.yb 2;simp only[aC,aB,aD]at aj;by_cases ay:nl=0
    ·have bi:¬(0:Int)<(nl:Int):=by omega
     clear f F;go_wp2_with fail
     go_meet;exact⟨T,g,C,xc,_,yk,yn,c,nl,yc,o,by omega,K.out⟩
    ·have bi:(0:Int)<(nl:Int):=by omega
     have fo:nI<nl:=by
      rcases dn with h|h
      ·exact h
      ·exact absurd h.1 ay
     have i3:(0:Int)<=(nI:Int):=by omega
     have i4:(nI:Int)<(nl:Int):=by omega
     obtain⟨A,⟨xk,dz,V⟩,E,R,az⟩:=AC o nI (by have:=af.out;omega);obtain⟨l,rfl⟩:∃l,c=aI ⟨l,0,aF⟩:=Ku (F.out.ac ⟨yk,yn,aA c nl yc,o⟩ (by simp)).row (fun aq=>ay (af.out.symm.trans aq));have bj:=af.out;have M:=Ab (show OY B p w1.heap.size X Y w1 D T ⟨yk,yn,aA (aI ⟨l,0,aF⟩) nl yc,A++⟨xk,dz,V⟩::E⟩ g C xc yk yn (k+1+1+1) z from by rw[<-R];exact⟨f,F.out⟩);obtain⟨xa,cw,cj,ck⟩:=Al M.out.2.bm.ac.words;simp only at cj ck;subst cj;have fr:=M.out.2.bm.ac.cell 1 (by decide);simp only[LAt.cells,aB,aD,az]at fr;have b0:=Ab R;have ch:=Ab az;have g7:V.length<=3:=by
      have:=(cb.out.2.2 ⟨xk,aA xa V.length cw,V⟩ (by simp only;rw[R];simp)).1;exact this
     clear f F R az bj;by_cases bb:V.length=0
     ·have iv:¬(0:Int)<(V.length:Int):=by omega
      generalize V.length=nw at *;go_wp2_with fail
      go_meet;exact⟨T,g,C,xc,_,yk,yn,aI ⟨l,0,aF⟩,nl,yc,o,by omega,K.out⟩
     ·obtain⟨s,bm,rfl⟩:∃s bm,V=s::bm:=by
       cases V with
       | nil=>exact absurd rfl bb
       | cons s bm=>exact⟨s,bm,rfl⟩
      obtain⟨r,rfl⟩:∃r,xa=aI ⟨r,0,aF⟩:=by
       rcases ck with h|h
       ·exact absurd h bb
       ·exact h
      have g8:(0:Int)<((s::bm).length:Int):=by omega
      obtain⟨nw,cx⟩:∃nw,(s::bm).length=nw:=⟨_,rfl⟩;rw[cx]at M fr g8;have g9:=fun n (fp:n<=k+1+1+1) W (cg:Rd B W p n)=>OV B p n W cg (by omega)
      have fs:=Ab cx;clear cx bb ck g7 K;go_upto_region 23 with fail
      have ai:(A++(⟨xk,aA (aI ⟨r,0,aF⟩) nw cw,s::bm⟩:LAt)::E).length=nl:=by
       have:=af.out;rw[b0.out]at this;simpa using this
      refine Rr M.out (by omega) ch.out ai fs.out (by kernel_rfl) (by kernel_rfl) (by kernel_rfl) (by kernel_rfl) ?_;intro v t k' W' a' S fq ak;simp only[An,CY,aK,aP,aQ]at S;subst S;have d0:=b0.out;rw[fs.out]at d0;rw[<-d0]at ak;have ci:=Ab ak;clear ak M g9 d0;go_wp2_with fail
      go_meet;exact⟨T,g,C,xc,_,yk,yn,aI ⟨l,0,aF⟩,nl,yc,_,by omega,ci.out⟩
   ·have aj:=Aa f.yb 2;simp only[aC,aB,aD]at aj;by_cases ay:nl=0
    ·have bi:¬(0:Int)<(nl:Int):=by omega
     clear f F;go_wp2_with fail
     go_meet;exact⟨T,g,C,xc,_,yk,yn,c,nl,yc,o,by omega,K.out⟩
    ·have bi:(0:Int)<(nl:Int):=by omega
     have fo:nI<nl:=by
      rcases dn with h|h
      ·exact h
      ·exact absurd h.1 ay
     have i3:(0:Int)<=(nI:Int):=by omega
     have i4:(nI:Int)<(nl:Int):=by omega
     obtain⟨A,⟨xk,dz,V⟩,E,R,az⟩:=AC o nI (by have:=af.out;omega);obtain⟨l,rfl⟩:∃l,c=aI ⟨l,0,aF⟩:=Ku (F.out.ac ⟨yk,yn,aA c nl yc,o⟩ (by simp)).row (fun aq=>ay (af.out.symm.trans aq));have bj:=af.out;have iw:nl<=7:=by have:=cb.out.2.1;simp only at this;omega
     have M:=Ab (show OY B p w1.heap.size X Y w1 D T ⟨yk,yn,aA (aI ⟨l,0,aF⟩) nl yc,A++⟨xk,dz,V⟩::E⟩ g C xc yk yn (k+1+1+1) z from by rw[<-R];exact⟨f,F.out⟩);obtain⟨xa,cw,cj,ck⟩:=Al M.out.2.bm.ac.words;simp only at cj ck;subst cj;have ai:(A++(⟨xk,aA xa V.length cw,V⟩:LAt)::E).length=nl:=by rw[<-R];exact bj
     have bl:=Ab ai;have ch:=Ab az;have b0:=Ab R;have dx:w1.heap.size<=z.heap.size:=f.gr.size;clear f F R az bj K ai;generalize cx:V.length=nw at *;go_upto_region 26 with fail
     refine Rt M.out ch.out bl.out (by omega) dx (by kernel_rfl) (by kernel_rfl) (by kernel_rfl) ?_;rintro v W' a' ix S ⟨xo,ha,hb,rfl⟩ ak;simp only[An,CY,aK,aP,aQ]at S;subst S;rw[<-b0.out]at ak;have ci:=Ab ak;clear ak M;go_wp2_with fail
     go_meet;exact⟨T,g,C,xc,_,yk,yn,xo,ha,hb,_,by omega,ci.out⟩
   ·have aj:=Aa f.yb 2;simp only[aC,aB,aD]at aj;by_cases ay:nl<=1
    ·have bi:¬(1:Int)<(nl:Int):=by omega
     clear f F;go_wp2_with fail
     go_meet;exact⟨T,g,C,xc,_,yk,yn,c,nl,yc,o,by omega,K.out⟩
    ·have bi:(1:Int)<(nl:Int):=by omega
     have gr:(0:Int)<(nl:Int):=by omega
     obtain⟨⟨k0,v0,a2⟩,⟨al,v1,u1⟩,E,rfl⟩:∃d1 d2 E,o=d1::d2::E:=by
      have:=af.out
      match o,this with
      | [],h=>simp at h;omega
      | [_],h=>simp at h;omega
      | d1::d2::E,_=>exact⟨d1,d2,E,rfl⟩
     obtain⟨l,rfl⟩:∃l,c=aI ⟨l,0,aF⟩:=Ku (F.out.ac ⟨yk,yn,aA c nl yc,⟨k0,v0,a2⟩::⟨al,v1,u1⟩::E⟩ (by simp)).row (by simp);obtain⟨a0,c0,ft,_⟩:=Al ((F.out.ac ⟨yk,yn,aA (aI ⟨l,0,aF⟩) nl yc,⟨k0,v0,a2⟩::⟨al,v1,u1⟩::E⟩ (by simp)).words ⟨k0,v0,a2⟩ (by simp));obtain⟨a1,cy,fu,_⟩:=Al ((F.out.ac ⟨yk,yn,aA (aI ⟨l,0,aF⟩) nl yc,⟨k0,v0,a2⟩::⟨al,v1,u1⟩::E⟩ (by simp)).words ⟨al,v1,u1⟩ (by simp));simp only at ft fu;subst ft fu;simp only at *;have ai:=af.out;generalize iy:a2.length=bo at *;generalize iz:u1.length=cz at *;have fv:=(aJ z.heap.size z).alloc (aG _) (aE #[.string k0,aA a0 bo c0] 115);have d3:=F.out.V fv;have bp:=f.V fv;have d4:=(F.out.bm.ac).size ai;have d5:=(d3.bm.ac).size ai;have hc:=d4.cellAt 0 (by omega);have hd:=d4.cellAt 1 (by omega);have d6:=d5.cellAt 2 (by omega);have he:=d5.cellAt 3 (by omega);simp only[LAt.cells,List.flatMap_cons,List.cons_append,List.nil_append,aB,aD]at hc hd d6 he;have hf:=Aa bp.yb 2;simp only[aC,aB,aD]at hf;have fw:=Ab d3;have hg:=Ab ((F.out.ac ⟨yk,yn,aA (aI ⟨l,0,aF⟩) nl yc,⟨k0,aA a0 bo c0,a2⟩::⟨al,aA a1 cz cy,u1⟩::E⟩ (by simp)).row.lt l rfl).2;have I:=Ab bp;have bl:=Ab ai;clear f F d3 bp d4 d5 ai K;have hh:l≠Y:=EP (I.out.mine.1.2.1 Y (by simp)).1 (by simp);have i1:l<z.heap.size:=hg.out;have hi:=Ai z (aE #[.string k0,aA a0 bo c0] 115);have i5:(z.alloc (aE #[.string k0,aA a0 bo c0] 115)).heap.size=z.heap.size+1:=by simp
     generalize c1:z.alloc (aE #[.string k0,aA a0 bo c0] 115)=N at *;go_upto_region 30 with fail
     (try rw[c1])
     refine Rs (x0:=⟨k0,aA a0 bo c0,a2⟩) (u1:=u1) ⟨I.out,fw.out⟩ bl.out (by kernel_rfl) (by kernel_rfl) ?_;intro v W' a' S a6 ar;simp only[An,CY,aK,aP,aQ]at S;subst S;have fx:=Ab (Fh.swap (x0:=⟨k0,aA a0 bo c0,a2⟩) (x1:=⟨al,aA a1 cz cy,u1⟩) a6.1 a6.2 bl.out);obtain⟨ys,cl,d7,_⟩:=DW [.string al,aA a1 cz cy] 0 W' _ (a6.2.bm.ac.size bl.out);have hj:Y<W'.heap.size:=(aH.1 a6.1.yb).1;have fy:=(d7.block Y hj (by intro e;cases e;exact hh rfl)).trans a6.1.yb;have d8:=(d7.block z.heap.size (by have:=ar.size;omega) (by intro e;cases e;omega)).trans ((ar.block z.heap.size (by omega)).trans hi);have z0:=Aa fy 2;have bu:=Aa d8 0;have z2:=Aa d8 1;simp only[aC,aB,aD]at z0 bu z2;obtain⟨dm,i6⟩:=aM.1 (EO cl 2 2 (by omega) 0 (by omega)).1;obtain⟨i7,i8⟩:=aM.1 (EO cl 2 2 (by omega) 1 (by omega)).1;have ja:=cl.frozenAt 2;have jb:=cl.frozenAt 3;clear a6 cl d7 fy d8 fw I c1;simp only[LAt.cells]at fx;generalize W'.setCells l 0 [.string al,aA a1 cz cy]=O at *;go_wp2_with fail
     go_meet;exact⟨T,g,C,xc,_,yk,yn,aI ⟨l,0,aF⟩,nl,yc,_,by omega,fx.out⟩
   ·have bz:=Aa f.yb 1;simp only[aC,aB,aD]at bz;have fz:=f.yb;have f0:(z.setRow Y #[.string ⟨#[98,101,114,116,104]⟩,.string yn,aA aF 0 0]).heap[Y]?=aI (aE #[.string ⟨#[98,101,114,116,104]⟩,.string yn,aA aF 0 0] 46 (0,0)):=aX _ _ _ _ _ _ fz;have bp:=f.lay (bk':=⟨#[98,101,114,116,104]⟩) (bn':=yn) (bv':=aA aF 0 0) (ls':=[]) f0 (Br z Y _) ⟨⟨⟨Nw _,by intro x a;cases a⟩,fun q _=>⟨.inl rfl,by intro x a;cases a⟩,fun q _=>⟨.inl rfl,by intro x a;cases a⟩⟩,by decide,cb.out.1,by simp,by intro x a;cases a⟩;have ca:=A1 B p (k+1+1+1) 2 _ bp.rd (by omega) (by omega) (by omega);have I:=Ab bp;clear f K F bp f0;go_wp2_with (with_reducible show bK _ _ _ (bF _ (bD _ (aR 7) _) _ _ _ _::_) _ _;refine aT rfl 46 _ _ rfl Y #[.string ⟨#[98,101,114,116,104]⟩,.string yn,aA aF 0 0] ?_ ?_ 46 _ fz ?_ ?_ ?_ ?_)
    all_goals (first|rfl|kernel_rfl|exact⟨rfl,rfl,rfl⟩|(obtain⟨i9,hk,_,hl,_⟩:=bG Cj;exact⟨i9,hk,hl⟩)|skip)
    generalize c1:z.setRow Y #[.string ⟨#[98,101,114,116,104]⟩,.string yn,aA aF 0 0]=N at *;go_wp2_with (go_at_call 44;refine ca.mono ?_)
    rintro e O ⟨aa,ab,rfl,f1,ap⟩;have b1:=I.out.grown ap f1;have ax:=Ab b1;obtain⟨m,jc,jd⟩:∃m:Nat,(10:Int)+(aa:Int)=(m:Int)/\m<=11:=⟨10+aa,by omega,by omega⟩;have hm:=b1.yb;have f2:Y<O.heap.size:=(aH.1 b1.yb).1;have bh:X<O.heap.size:=(aH.1 b1.xb).1;have je:g<O.heap.size:=(b1.row.lt g rfl).2;obtain⟨i0,aw,hn,ho,ez⟩:=bG CQ;have hp:=Ab cb.out.1;clear ca I f1 ap b1 bz c1;go_wp2;go_loopw [11] (fun i wr=>Adb O.heap.size Y O yn i wr) (fun i _=>20-(intOf i).toNat)
    case atStart=>exact⟨0,aF,0,[],rfl,by omega,rfl,bO _ _,hm,TH _ _,by simp⟩
    case round =>
     obtain⟨j,a',d9,ls,rfl,jf,ea,c2,b2,b3,b4⟩:=hrel;by_cases jg:j<m
     ·have hq:(j:Int)<(m:Int):=by omega
      have f3:=Aa b2 2;simp only[aC,aB,aD]at f3;have bq:=Jd wr (aU (97+j));rw[V3 j (by omega)]at bq;obtain⟨ds,eb,cm⟩:∃ds:ByteArray,ds.size=1/\ds=⟨#[aU (97+j)]⟩:=⟨_,rfl,rfl⟩;rw[<-cm]at bq;have hr:¬ 9223372036854775807<1+ds.size:=by omega
      have hs:=Ac b2 2;have ec:=Ab b3;have b5:=Ab c2;have f4:=Ab b2;have f5:=Ab b4;have ed:=Ab ea;clear b3 c2 b2 b4 ea cm ax;have ht:O.heap.size<=wr.heap.size:=b5.out.size;obtain⟨H,a7⟩:∃H:ByteArray,H=⟨#[109]⟩++ds:=⟨_,rfl⟩;have f6:H.size=2:=by rw[a7,bB,eb];rfl
      have ee:Below wr.heap.size wr ((wr.alloc (aE #[.int .u8 (97+(j:Int))] 5)).alloc (aE #[.string H] 9)):=((aJ _ _).alloc (aG _) _).alloc (by simp) _;have hu:((wr.alloc (aE #[.int .u8 (97+(j:Int))] 5)).alloc (aE #[.string H] 9)).heap.size=wr.heap.size+2:=by simp
      have o2:=XQ wr (aE #[.int .u8 (97+(j:Int))] 5) H;have ah:=Bn ((wr.alloc (aE #[.int .u8 (97+(j:Int))] 5)).alloc (aE #[.string H] 9)) #[.string ⟨#[109,97,114,107]⟩,aA (aI ⟨wr.heap.size+1,0,aF⟩) 1 1] 115 2 rfl;have f7:=(aJ ((wr.alloc (aE #[.int .u8 (97+(j:Int))] 5)).alloc (aE #[.string H] 9)).heap.size ((wr.alloc (aE #[.int .u8 (97+(j:Int))] 5)).alloc (aE #[.string H] 9))).alloc (aG _) (aE #[.string ⟨#[109,97,114,107]⟩,aA (aI ⟨wr.heap.size+1,0,aF⟩) 1 1] 115);have ac:(((wr.alloc (aE #[.int .u8 (97+(j:Int))] 5)).alloc (aE #[.string H] 9)).alloc (aE #[.string ⟨#[109,97,114,107]⟩,aA (aI ⟨wr.heap.size+1,0,aF⟩) 1 1] 115)).ownsRow O.heap.size 115 2 (aA a' j d9) j (ls.flatMap LAt.cells):=by
       have:=ec.out.row;rw[ed.out]at this;exact AI (AI this ee) f7
      rw[hu]at ah;have br:O.heap.size<=(((wr.alloc (aE #[.int .u8 (97+(j:Int))] 5)).alloc (aE #[.string H] 9)).alloc (aE #[.string ⟨#[109,97,114,107]⟩,aA (aI ⟨wr.heap.size+1,0,aF⟩) 1 1] 115)).heap.size:=by simp;omega
      rw[a7]at ah ac br;go_wp2_with (at_builtin;refine AD (by rfl) _ _ 44 (by rfl) O.heap.size 115 i0 _ 2 40 underlying44 aw hn ho ez rfl (by decide) _ j _ (by rfl) ac _ 1 _ (by rfl) ah (by intro aa ab;simp at ab;rcases ab with rfl|rfl <;> rfl) ?c3 ?c4 br ?_)
      case c3=>unfold maxLen;omega
      case c4=>omega
      rw[<-a7];intro bf an ef ao f8 a5;have a3:=IL (x:=⟨⟨#[109,97,114,107]⟩,aA (aI ⟨wr.heap.size+1,0,aF⟩) 1 1,[H.data.toList]⟩) ec.out ht o2 ee (by rw[ed.out];exact ao) f8 (by rcases a5 with e|e;exact .inl e;exact .inr (by rw[e];simp));have c5:=(a3.2.block Y f2).trans f4.out;have hv:=Aa c5 2;have jh:=Ac c5 2;simp only[aC,aB,aD]at hv;have ag:=Es ef Y 2 (aA bf (j+1) an);have eg:=Ab (show Adb O.heap.size Y O yn (.int .i64 ((j+1:Nat):Int)) (ef.setCell ⟨Y,2,aF⟩ (aA bf (j+1) an)) from by
       refine⟨j+1,bf,an,_,rfl,by omega,?_,⟨ag.os.trans (a3.2.os.trans b5.out.os),ag.tape.trans (a3.2.tape.trans b5.out.tape),ag.output.trans (a3.2.output.trans b5.out.output),?_,fun i f9 ga=>?_⟩,?_,a3.1.setCell ⟨Y,2,aF⟩ f2 _,?_⟩
       ·rw[List.length_append,ed.out];rfl
       ·have:=ag.size;have:=a3.2.size;omega
       ·rw[ag.block i (by have:=a3.2.size;omega) ga,a3.2.block i f9];exact b5.out.block i f9 ga
       ·rw[aZ ef Y 2 _ _ _ c5];rfl
       ·intro x a;rcases aS.1 a with h|h
        ·exact f5.out x h
        ·rw[aL.1 h];refine⟨show (⟨#[109,97,114,107]⟩:ByteArray).size<=20 by decide,aG _,fun y eh=>?_⟩;rw[aL.1 eh];exact bI f6)
      clear a3 c5 ag ao f8 a5 ac ah o2 ee f7 br ec b5 f4 f5 f3 hs bq;go_wp2_with fail
      go_roundw;case rel=>exact(by have:=eg.out;simpa using this)
      case measure=>simp[intOf];omega
     ·have hq:¬(j:Int)<(m:Int):=by omega
      have gb:=ax.out.lay (bk':=⟨#[98,101,114,116,104]⟩) (bn':=yn) (bv':=aA a' j d9) (ls':=ls) b2 c2 ⟨⟨b3.lin,fun q ae=>b3.farAll (by simp only[aN,aV,or_false]at ae;rcases ae with rfl|rfl|rfl <;> assumption),fun q ae=>b3.farAll (by have:=ax.out.gr.size;have:=ax.out.cw;omega)⟩,by decide,hp.out,by omega,fun x a=>⟨(b4 x a).1,bH (b4 x a).2.1 (by decide),fun y eh=>bH ((b4 x a).2.2 y eh) (by decide)⟩⟩
      have hw:=Ab gb;clear gb b3 c2 b2 b4 ea ax;go_wp2_with fail
      go_meet;exact⟨T,g,C,xc,_,_,yn,a',j,d9,ls,by omega,hw.out⟩
   ·have ji:C<=60:=by have:=dc.out;omega
    clear f F;go_wp2;go_loopw [12] (fun i wr=>Ada B p w1.heap.size X Y w1 D ⟨yk,yn,aA c nl yc,o⟩ C (k+1+1+1) yk yn (aA c nl yc) o i wr) (fun i _=>70-(intOf i).toNat)
    case atStart=>exact⟨0,T,g,xc,_,rfl,by omega,aG _,K.out⟩
    case round =>
     obtain⟨j,ei,G,am,kk',rfl,jj,jk,J⟩:=hrel;have M:=Ab J;have a4:=fun n (fp:n<=k+80) W (cg:Rd B W p n)=>A1 B p n 2 W cg (by omega) (by omega) (by omega)
     clear J K;go_upto_region 9 with fail
     refine TI (fun kk W=>Fh B p w1.heap.size X Y w1 D ei ⟨yk,yn,aA c nl yc,o⟩ G (C+j) am kk yk yn (aA c nl yc) o W) B (fun _ _ h=>h.rd) (fun _ _ h=>by have:=Aa h.xb 0;simpa using this) (fun _ _ _ _ h a6 hx=>h.grown a6 hx) (fun _ _ h=>h.V (aJ _ _).drew) M.out (by omega) (by omega) (by kernel_rfl) (by kernel_rfl) (by kernel_rfl) ?_;intro v b k' W' a' S ej ar fq cn;simp only[An,CY,aK,aP,aQ,ej]at S;subst S;have co:=Ab cn;cases b
     ·clear cn M a4 ar ej;go_wp2_with fail
      go_meet;exact⟨ei,G,C+j,am,k',yk,yn,c,nl,yc,o,by omega,co.out⟩
     ·have jl:=ar rfl;have gc:=Aa cn.xb 0;have hy:=Ac cn.xb 0;simp only[aC,aB]at gc;clear cn M a4 ar ej;have jm:j<=60:=by omega
      have bq:=ZS W' (aU (97+j/26)) (aU (97+j%26));rw[V3 (j/26) (by omega),V3 (j%26) (by omega),show ((j/26:Nat):Int)=(j:Int)/26 from by omega,show ((j%26:Nat):Int)=(j:Int)%26 from by omega]at bq;obtain⟨ds,eb,cm⟩:∃ds:ByteArray,ds.size=2/\ds=⟨#[aU (97+j/26),aU (97+j%26)]⟩:=⟨_,rfl,rfl⟩;rw[<-cm]at bq;have hr:¬ 9223372036854775807<1+ds.size:=by omega
      obtain⟨H,a7⟩:∃H:ByteArray,H=⟨#[116]⟩++ds:=⟨_,rfl⟩;have f6:H.size=3:=by rw[a7,bB,eb];rfl
      obtain⟨i0,aw,du,dv,dw⟩:=bG Cj;have Z:Below W'.heap.size W' ((W'.alloc (aE #[.int .u8 (97+(j:Int)/26),.int .u8 (97+(j:Int)%26)] 5)).alloc (aE #[.string ⟨#[116,101,97,109]⟩,.string H,aA aF 0 0] 46)):=((aJ _ _).alloc (aG _) _).alloc (by simp) _;have ah:=Bn (W'.alloc (aE #[.int .u8 (97+(j:Int)/26),.int .u8 (97+(j:Int)%26)] 5)) #[.string ⟨#[116,101,97,109]⟩,.string H,aA aF 0 0] 46 3 rfl;rw[aY]at ah;have P:=co.out.V Z;have ac:=P.row;have dy:((W'.alloc (aE #[.int .u8 (97+(j:Int)/26),.int .u8 (97+(j:Int)%26)] 5)).alloc (aE #[.string ⟨#[116,101,97,109]⟩,.string H,aA aF 0 0] 46)).heap.size=W'.heap.size+2:=by simp
      have dx:w1.heap.size<=W'.heap.size:=co.out.gr.size;have g4:X<W'.heap.size:=(aH.1 co.out.xb).1;have g5:Y<W'.heap.size:=(aH.1 co.out.yb).1;have br:w1.heap.size<=((W'.alloc (aE #[.int .u8 (97+(j:Int)/26),.int .u8 (97+(j:Int)%26)] 5)).alloc (aE #[.string ⟨#[116,101,97,109]⟩,.string H,aA aF 0 0] 46)).heap.size:=by omega
      have ad:=Ab P;have hz:=Ab a7;rw[a7]at ah ac br;clear P Z cm a7;generalize jn:C+j=ek at *;go_wp2_with (at_builtin;refine AD (by rfl) _ _ 23 (by rfl) w1.heap.size 46 i0 _ 3 56 underlying23 aw du dv dw rfl (by decide) _ ek _ (by rfl) ac _ 1 _ (by rfl) ah (by intro aa ab;simp at ab;rcases ab with rfl|rfl|rfl <;> rfl) ?c3 ?c4 br ?_)
      case c3=>unfold maxLen;omega
      case c4=>omega
      rw[<-hz.out];intro bf an O ao ap a5;obtain⟨Q,rfl⟩:∃Q,bf=aI ⟨Q,0,aF⟩:=Ku ao (by omega);have bg:Q=G\/((W'.alloc (aE #[.int .u8 (97+(j:Int)/26),.int .u8 (97+(j:Int)%26)] 5)).alloc (aE #[.string ⟨#[116,101,97,109]⟩,.string H,aA aF 0 0] 46)).heap.size<=Q:=by
       rcases a5 with e|e
       ·left;exact aO e
       ·right;rw[dy];exact bI (aO e).symm
      have cv:=Ab (ad.out.push (z:=⟨⟨#[116,101,97,109]⟩,H,aA aF 0 0,[]⟩) (g':=Q) (cap':=an) ap (by simpa [dp,BAt.cells] using ao) ⟨⟨⟨Nw _,by intro x a;cases a⟩,fun q _=>⟨.inl rfl,by intro x a;cases a⟩,fun q _=>⟨.inl rfl,by intro x a;cases a⟩⟩,show (⟨#[116,101,97,109]⟩:ByteArray).size<=20 by decide,by simp only;omega,by simp,by intro x a;cases a⟩ bg (by rcases bg with e|e;rw[e];exact ad.out.gX;omega) (by rcases bg with e|e;rw[e];exact ad.out.gY;omega) (by omega));have bh:=(ap.block X (by omega) (by intro e;have:=aO e;exact ad.out.gX this.symm)).trans ad.out.xb;have be:=Aa bh 0;have dq:=Ac bh 0;simp only[aC,aB]at be;have eg:=Ab (show Ada B p w1.heap.size X Y w1 D ⟨yk,yn,aA c nl yc,o⟩ C (k+1+1+1) yk yn (aA c nl yc) o (.int .i64 ((j+1:Nat):Int)) (O.setCell ⟨X,0,aF⟩ (aA (aI ⟨Q,0,aF⟩) (ek+1) an)) from⟨j+1,_,Q,an,k',rfl,by omega,by omega,by rw[show C+(j+1)=ek+1 by omega];exact cv.out⟩);clear ao ap a5 ac ah ad cv bh br dy bq gc hy;go_wp2_with fail
      go_roundw;case rel=>exact(by have:=eg.out;simpa using this)
      case measure=>simp[intOf];omega
  case rest =>
   obtain⟨ei,G,n',am,kk',bk,bn,a',m',cp,ls',jo,J⟩:=hcut;obtain⟨bt,h0⟩:∃bt,bt=wc:=⟨_,rfl⟩;subst h0;have au:=J.out (d:=100) (w:=w) (k:=k) dp gl (by omega) ep #[aA (aI ⟨G,0,aF⟩) n' am];have dr:=Aa J.xb 0;have dt:=Aa J.yb 0;have bz:=Aa J.yb 1;have aj:=Aa J.yb 2;simp only[aC,aB,aD]at dr dt bz aj;have h2:D.length=kx:=e4;rw[h2]at au;have jp:(kx:Int)<(n':Int):=by
    have:=J.len;simp at this;omega
   have h3:=J.gr.block (w.heap.size+1) (by omega) (by intro e;cases e;omega);have el:=au.2.2.1;have gd:=au.2.1.trans J.xb;have ge:=au.2.2.2.trans (h3.trans gm.out);have gf:=Ab au.1;have ac:=J.row;obtain⟨a2,al⟩:=aM.1 (el 0 (by omega)).1;have gg:=(el 0 (by omega)).2;have c6:=(ac.stored (kx*3) (.string bk)).1;obtain⟨u1,h4⟩:=aM.1 (EO c6 (kx*3) 3 (by omega) 1 (by omega)).1;have h5:=c6.frozenAt (kx*3+1);have em:=(c6.stored (kx*3+1) (.string bn)).1;obtain⟨u2,h6⟩:=aM.1 (EO em (kx*3) 3 (by omega) 2 (by omega)).1;have h7:=em.frozenAt (kx*3+2);rw[bP]at al gg;have d6:((((bt.setCell ⟨G,kx*3,aF⟩ (.string bk)).setCell ⟨G,kx*3+1,aF⟩ (.string bn)).setCell ⟨G,kx*3+2,aF⟩ (aA a' m' cp)).cell? ⟨X,0,aF⟩)=aI (aA (aI ⟨G,0,aF⟩) n' am):=(Aa (w:=bt.setCells G (kx*3) [.string bk,.string bn,aA a' m' cp]) gd 0);have en:(((bt.setCell ⟨G,kx*3,aF⟩ (.string bk)).setCell ⟨G,kx*3+1,aF⟩ (.string bn)).setCell ⟨G,kx*3+2,aF⟩ (aA a' m' cp)).heap[w.heap.size+1]?=aI (aE #[aA aF 0 0] 25 (0,0)):=ge;clear ac c6 em;clear au J K F;go_wp2_with (with_reducible show bK _ _ _ (bF _ (bD _ (aR 4) _) _ _ _ _::_) _ _;refine aT rfl 25 (aR 4) (aR 198) rfl (w.heap.size+1) #[aA (aI ⟨G,0,aF⟩) n' am] ?_ ?_ 25 _ en ?_ ?_ ?_ ?_)
   all_goals (first|rfl|kernel_rfl|exact Bg|skip)
   have z5:(bE (((bt.setCell ⟨G,kx*3,aF⟩ (.string bk)).setCell ⟨G,kx*3+1,aF⟩ (.string bn)).setCell ⟨G,kx*3+2,aF⟩ (aA a' m' cp)) (w.heap.size+1) #[aA (aI ⟨G,0,aF⟩) n' am]).heap[w.heap.size+1]?=aI (aE #[aA (aI ⟨G,0,aF⟩) n' am] 25 (0,0)):=aX _ _ _ _ _ _ en;have bc:=Aa z5 0;simp only[aC,aB]at bc;have gh:=gf.out;clear gf d6 al gg h4 h5 h6 h7 en el gd ge;generalize gi:bE (((bt.setCell ⟨G,kx*3,aF⟩ (.string bk)).setCell ⟨G,kx*3+1,aF⟩ (.string bn)).setCell ⟨G,kx*3+2,aF⟩ (aA a' m' cp)) (w.heap.size+1) #[aA (aI ⟨G,0,aF⟩) n' am]=h8 at bc z5⊢;have h9:Ec 100 B p k w (bC (bJ #[aA (aI ⟨G,0,aF⟩) n' am])) h8:=by rw[<-gi];exact gh
   clear gh gi;exact bA (v:=bJ #[aA (aI ⟨G,0,aF⟩) n' am]) (by simp[bN,results104,go_sem,bc]) rfl h9
variable {n c:Nat}{W W':World}
theorem Ec.ret{d' k0:Nat}{a:Option Addr}(h:Ec d B p k0 W (bC (bJ #[aA a n c])) W')(g:w.grownBy W (aI p))(r:w.heap.size<W.heap.size)(s:p<w.heap.size)(y:k0+d<=k+d')(cs:Array Value):Ec d' B p k w (bC (bJ #[aA a n c])) (W'.setRow w.heap.size cs):=by
 obtain⟨a',n',z,bs,k',t,A,u,f,v,x,l⟩:=h;cases t
 have b:=Br W' w.heap.size cs;have C:=f.size;refine⟨a,n,c,bs,k',rfl,by omega,AJ.rd u (AJ.ag (S:=[w.heap.size]) b (fun q m=>by cases m;simp)) (fun i j=>by rw[aL.1 j];exact s),⟨b.os.trans (f.os.trans g.os),b.tape.trans (f.tape.trans g.tape),b.output.trans (f.output.trans g.output),?_,fun i j o=>?_⟩,v.aj (l _ r) b,x,fun q m=>l q (by omega)⟩
 ·have:=b.size;omega
 ·rw[b.block i (by omega) (by intro e;cases e;omega),f.block i (by omega) o];exact g.block i j o
theorem Kv(B p k:Nat)(w:World)(h:Rd B w p k)(ag:k<=400000):Calls prog 43 #[.pointer (aI ⟨p,0,aF⟩)] w fun e w'=>Ec 800 B p k w e w':=by
 have x:=h.lt;have X:Rd B (w.alloc (aE #[aA aF 0 0] 25)) p k:=h.V ((aJ _ _).alloc (aG _) _);have z:w.grownBy (w.alloc (aE #[aA aF 0 0] 25)) (aI p):=BI (World.grownBy_alloc _ _ _) _;have Y:=Ai w (aE #[aA aF 0 0] 25);have ah:(w.alloc (aE #[aA aF 0 0] 25)).heap.size=w.heap.size+1:=by simp
 generalize A:w.alloc (aE #[aA aF 0 0] 25)=w1 at *;have C:=V0 B p k w1 X (by omega);go_enter func43,ntmps43;go_wp2_with (go_at_call 78;(try rw[A]);refine C.mono ?_)
 rintro e w2 ⟨v,bs,s,rfl,ai,D,E,t,aj,F⟩;obtain⟨a,c,rfl,_⟩:=Al t.row;have n:=(aJ w2.heap.size w2).alloc (aG _) (aE #[aA a bs.length c] 25);have G:=Ai w2 (aE #[aA a bs.length c] 25);have H:=D.V n;have I:=A1 B p s 16 _ H (by omega) (by omega) (by omega);have J:=Ab (t.V n);have f:=Ab F;have ak:=E.size;have K:=Ah E (Ar n (aI p));clear C t F D H A;generalize L:bs.length=nl at *;have M:=Ab L;clear L;generalize u:w2.alloc (aE #[aA a nl c] 25)=w3 at *;go_wp2_with (go_at_call 44;(try rw[u]);refine I.mono ?_)
 rintro e i ⟨y,al,rfl,N,o⟩;have O:=(o.block w2.heap.size (by rw[<-u];simp) (by intro e;cases e;omega)).trans G;have Z:=Aa O 0;simp only[aC,aB]at Z;have j:=Ab (show Ax w1.heap.size i (aA a nl c) bs from Ay.other J.out o (by omega));have r:=Ah K o;have am:=r.size;have z4:=(r.block w.heap.size (by omega) (by intro e;cases e;omega)).trans Y;clear I J O G o u K n;by_cases aa:y=0
 ·subst aa;have P:=TJ B p (s+1) i N (by omega) j.out.bin (by have:=M.out;omega) f.out.1 f.out.2;clear j f;go_wp2_with (go_at_call 104;refine P.mono ?_)
  rintro e Q R;have S:=Ab R;obtain⟨a5,g,c5,an,ao,rfl,ap,ab,T,ac,ad,ae⟩:=R;have z5:=(T.block w.heap.size (by omega) (by intro e;cases e;omega)).trans z4;have l:=Ab (S.out.ret (w:=w) (k:=k) (d':=800) (Ah z r) (by omega) x (by omega) #[aA a5 g c5]);clear P S ab T ac ad ae;go_wp2_with (with_reducible show bK _ _ _ (bF _ (bD _ (aR 2) _) _ _ _ _::_) _ _;refine aT rfl 25 _ _ rfl w.heap.size #[aA a5 g c5] ?_ ?_ 25 _ z5 ?_ ?_ ?_ ?_)
  all_goals (first|rfl|kernel_rfl|exact Bg|skip)
  have m:(Q.setRow w.heap.size #[aA a5 g c5]).heap[w.heap.size]?=aI (aE #[aA a5 g c5] 25 (0,0)):=aX _ _ _ _ _ _ z5;have d:=Aa m 0;simp only[aC,aB]at d;generalize Q.setRow w.heap.size #[aA a5 g c5]=W at l d m⊢;exact bA (v:=bJ #[aA a5 g c5]) (by simp[bN,results43,go_sem,d]) rfl l.out
 ·have aq:((y:Int)==0)=false:=by rw[beq_eq_false_iff_ne];omega
  have U:Ec 601 B p k w1 (bC (bJ #[aA a nl c])) i:=⟨a,nl,c,bs,s+1,rfl,by omega,N,r,j.out.bin,⟨fun b V=>(f.out.1 b V).t (f.out.2 b V),by have:=M.out;omega⟩,fun q af=>j.out.aj af⟩;have l:=Ab (U.ret (w:=w) (k:=k) (d':=800) z (by omega) x (by omega) #[aA a nl c]);clear j f U;go_wp2_with (with_reducible show bK _ _ _ (bF _ (bD _ (aR 2) _) _ _ _ _::_) _ _;refine aT rfl 25 _ _ rfl w.heap.size #[aA a nl c] ?_ ?_ 25 _ z4 ?_ ?_ ?_ ?_)
  all_goals (first|rfl|kernel_rfl|exact Bg|skip)
  have m:(i.setRow w.heap.size #[aA a nl c]).heap[w.heap.size]?=aI (aE #[aA a nl c] 25 (0,0)):=aX _ _ _ _ _ _ z4;have d:=Aa m 0;simp only[aC,aB]at d;generalize i.setRow w.heap.size #[aA a nl c]=W at l d m⊢;exact bA (v:=bJ #[aA a nl c]) (by simp[bN,results43,go_sem,d]) rfl l.out
