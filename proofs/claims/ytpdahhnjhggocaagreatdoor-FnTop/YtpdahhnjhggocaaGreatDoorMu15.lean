import Derived.Test.YtpdahhnjhggocaaGreatDoorMu14
import Derived.Deep.CutBlock
open Go.Proofs.Tryz
open Go.Value renaming slice->aA,agg->bD,string->bE
open List renaming getElem?_cons_zero->aB,getElem?_toArray->aC,getElem?_cons_succ->aD,setIfInBounds_toArray->aK,mem_singleton->aL,mem_cons->aO,set_cons_zero->aP,set_cons_succ->aQ,mem_append->aS,not_mem_nil->aW
open Go.Obj renaming cells->aE
open Option renaming none->aF,some->aI,isSome_iff_exists->aM
open Nat renaming le_refl->aG,lt_irrefl->aU,le_of_eq->bC,le_trans->bG,add_zero->bH
open Array renaming getElem?_eq_some_iff->aH
open Go.RowKit.Below renaming refl->aJ
open Option.some renaming inj->aN
open Go.Operand renaming tmp->aR
open UInt8 renaming ofNat->aT
open Go.World renaming size_alloc->aV,setRow->bA
open ByteArray renaming size_append->aX
open Go.Ending renaming returned->aY
open Go.Op renaming store->aZ
open Go.Oper renaming mk->bB
open Go.World.grownBy renaming refl->bF
namespace Go.Proofs.YtpdahhnjhggocaaGreatDoor
open Go.RowKit
set_option maxHeartbeats 16000000
set_option maxRecDepth 100000
variable {w:World}{B p k kk d q:Nat}{v:Value}{bs:List BAt}
theorem NF(w:World):Ap w (aA aF 0 0) 0 2 []:=⟨rfl,aF,0,rfl,⟨aG _,Nat.zero_le _⟩,.inl rfl⟩
theorem VJ{a:World}(r:Rd B a p kk)(s:kk<=k+d)(j:w.grownBy a (aI p))(z:p<w.heap.size)(A:w.heap.size+2<=a.heap.size)(cs:Array Value):Eg d B p k w (aY (bD #[aA (aI ⟨a.heap.size,0,aF⟩) 1 1])) ((a.alloc (aE #[.string ⟨#[]⟩,.string ⟨#[]⟩,aA aF 0 0] 46)).setRow (w.heap.size+1) cs):=by
 have f:=Ba (a.alloc (aE #[.string ⟨#[]⟩,.string ⟨#[]⟩,aA aF 0 0] 46)) (w.heap.size+1) cs;have g:=(aJ a.heap.size a).alloc (aG _) (aE #[.string ⟨#[]⟩,.string ⟨#[]⟩,aA aF 0 0] 46);have t:=Bz a #[.string ⟨#[]⟩,.string ⟨#[]⟩,aA aF 0 0] 46 3 rfl;refine⟨_,1,1,[⟨⟨#[]⟩,⟨#[]⟩,aA aF 0 0,[]⟩],kk,rfl,s,?_,⟨?_,?_,?_,?_,fun i l u=>?_⟩,⟨?_,?_⟩,⟨⟨by simp,?_⟩,by simp⟩,fun q o=>⟨?_,?_⟩⟩
 ·exact AN.rd (r.V g) (AN.ai (S:=[w.heap.size+1]) f (fun q o=>by cases o;simp)) (fun i l=>by rw[aL.1 l];omega)
 ·exact f.os.trans (g.os.trans j.os)
 ·exact f.tape.trans (g.tape.trans j.tape)
 ·exact f.output.trans (g.output.trans j.output)
 ·have:=f.size;have:=g.size;omega
 ·rw[f.block i (by have:=g.size;omega) (by intro e;cases e;omega),g.block i (by omega)];exact j.block i l u
 ·exact Ap.far t (.inr fun b off m c e=>by cases e;show a.heap.size≠w.heap.size+1;omega) f
 ·intro b n;rw[aL.1 n];exact⟨NF _,by intro x h;cases h⟩
 ·intro b n;rw[aL.1 n];exact⟨by decide,by simp,by intro x h;cases h⟩
 ·exact .inr fun b off m c e=>by cases e;show a.heap.size≠q;omega
 ·intro x h;rw[aL.1 h];exact⟨.inl rfl,by intro y v;cases v⟩
theorem Aq.apart(h:Aq B w v bs)(c:w.heap.size<=q):AD q v bs :=
 ⟨Cc.of_own h.row (fun e=>by have:=(h.row.lt q e).2;omega),fun x a=>⟨Cc.of_own (h.ac x a).row (fun e=>by have:=((h.ac x a).row.lt q e).2;omega),fun y b=>Cc.of_own ((h.ac x a).words y b) (fun e=>by have:=(((h.ac x a).words y b).lt q e).2;omega)⟩⟩
theorem Ae1(u:ByteArray)(h:u∈([⟨#[]⟩,⟨#[65]⟩,⟨#[122,122]⟩]:List ByteArray)):u.size<=1048576:=by
 simp only[aO,aW,or_false]at h;rcases h with rfl | rfl | rfl <;> decide
def Ae2(B p c X Y:Nat)(w1:World)(D:List BAt)(y:BAt)(kk:Nat)(W:World):Prop:=∃(T:List BAt) (g n b kk':Nat) (bk bn:ByteArray) (a:Option Addr) (m d:Nat) (ls:List LAt),kk'<=kk+80/\FD B p c X Y w1 D T y g n b kk' bk bn (aA a m d) ls W
theorem TY(B p k:Nat)(w:World)(h:Rd B w p k)(h4:k<=500000)(c7:As w v bs)(h5:bs.length<=60)(c8:∀b∈bs,Dw b):Calls prog 104 #[.pointer (aI ⟨p,0,aF⟩),bD #[v]] w fun e w'=>Eg 100 B p k w e w':=by
 obtain⟨sa,sc,rfl⟩:=c7.1.ae;have en:=h.lt;have eo:=BO (w:=w) (cs:=#[aA sa bs.length sc]) (ds:=#[aA aF 0 0]) (T:=25) (U:=25);have c0:=eo.1 0;simp only[aC,aB]at c0;clear eo;have b6:Below w.heap.size w ((w.alloc (aE #[aA sa bs.length sc] 25)).alloc (aE #[aA aF 0 0] 25)):=((aJ _ _).alloc (aG _) _).alloc (by simp) _;have bu:=Al (w.alloc (aE #[aA sa bs.length sc] 25)) (aE #[aA aF 0 0] 25);have ge:((w.alloc (aE #[aA sa bs.length sc] 25)).alloc (aE #[aA aF 0 0] 25)).heap.size=w.heap.size+2:=by simp
 simp only[aV]at bu;have ep:=h.V b6;have gf:=A2 b6 (aI p);have gg:=Aa bu;have eq:=Fw (c7.V b6) (Fa (by omega) c8);have gh:=Aa c8;clear c7 c8;generalize er:bs.length=gi at *;have gj:=Aa er;clear er;generalize es:(w.alloc (aE #[aA sa gi sc] 25)).alloc (aE #[aA aF 0 0] 25)=w1 at *;go_enter func104,ntmps104;go_wp2_with (go_at_call 55;(try rw[es]);refine eq.mono ?_)
 first | rintro e w2 v2 rfl M b7 o2 a8 | rintro e w2 v2 M rfl b7 o2 a8 | rintro e w2 ⟨v2,M,rfl,b7,o2,a8⟩
 have et:=Aa (Lk gh.out b7);have gl:M.length<=60:=by have:=congrArg List.length b7;simp at this;have:=gj.out;omega
 obtain⟨xa,xc,rfl,eu⟩:=Ak o2.row;have ev:=Aa eu;have ew:=a8.size;have c9:=(aJ w2.heap.size w2).alloc (aG _) (aE #[aA xa M.length xc] 25);have cp:=Al w2 (aE #[aA xa M.length xc] 25);have c3:=Ab cp 0;simp only[aC,aB]at c3;have da:=(ep.V a8).V c9;have a9:=Aa o2;have db:=a8.trans (c9.mono a8.size);have a4:=TT B p k M.length (w2.alloc (aE #[aA xa M.length xc] 25)) da (by omega) (by omega);have h6:(w2.alloc (aE #[aA xa M.length xc] 25)).heap.size=w2.heap.size+1:=by simp
 have ex:=(db.block (w.heap.size+1) (by omega)).trans bu;have gm:=A2 (b6.trans (db.mono b6.size)) (aI p);have gn:=A2 db (aI p);clear eq o2 b7 eu c0 bu ep a8 es c9;generalize ey:M.length=C at *;have dc:=Aa ey;clear ey;generalize bv:w2.alloc (aE #[aA xa C xc] 25)=W3 at *;go_wp2_with (go_at_call 44;(try rw[bv]);refine a4.mono ?_)
 rintro e I ⟨kx,go,rfl,dd,ba⟩;have de:p<w2.heap.size:=by omega
 have c4:=(ba.cell_far ⟨w2.heap.size,0,aF⟩ (by rw[<-bv];simp) (by intro e;cases e;exact absurd de (aU _))).trans c3;have gp:=Ar gm ba;have gq:=Ar gn ba;have h7:=ba.size;have ez:=(ba.block (w.heap.size+1) (by omega) (by intro e;cases e;omega)).trans ex;by_cases bb:C=0
 ·subst bb;have au:=Aa (VJ (d:=100) (k:=k) dd (by omega) gp en (by omega) #[aA (aI ⟨I.heap.size,0,aF⟩) 1 1]);have e0:(I.alloc (aE #[.string ⟨#[]⟩,.string ⟨#[]⟩,aA aF 0 0] 46)).heap[w.heap.size+1]?=aI (aE #[aA aF 0 0] 25 (0,0)):=by rw[Cj _ _ _ (by omega)];exact ez
  clear a4 c3 cp da a9 bv;go_wp2_with (with_reducible show wpList _ _ _ (bB _ (aZ _ (aR 4) _) _ _ _ _::_) _ _;refine wpList_store_row rfl 25 _ _ rfl (w.heap.size+1) #[aA (aI ⟨I.heap.size,0,aF⟩) 1 1] ?_ ?_ 25 _ e0 ?_ ?_ ?_ ?_)
  all_goals (first | rfl | kernel_rfl | exact AB | skip)
  have z5:((I.alloc (aE #[.string ⟨#[]⟩,.string ⟨#[]⟩,aA aF 0 0] 46)).setRow (w.heap.size+1) #[aA (aI ⟨I.heap.size,0,aF⟩) 1 1]).heap[w.heap.size+1]?=aI (aE #[aA (aI ⟨I.heap.size,0,aF⟩) 1 1] 25 (0,0)):=setRow_heap _ _ _ _ _ _ e0;have bc:=Ab z5 0;simp only[aC,aB]at bc;generalize bA _ _ _=W at au bc z5⊢;exact bodyPost_ret (v:=bD #[aA (aI ⟨I.heap.size,0,aF⟩) 1 1]) (by simp[results,results104,go_sem,bc]) rfl au.out
 ·have h8:((C:Int)==0)=false:=by rw[beq_eq_false_iff_ne];omega
  have h9:kx<C:=by
   rcases go with h1 | h1
   ·exact h1
   ·exact absurd h1.1 bb
  obtain⟨g,rfl⟩:∃g,xa=aI ⟨g,0,aF⟩:=by
   rcases ev.out with df | df
   ·exact absurd df bb
   ·exact df
  obtain⟨D,y,T,b8,e1⟩:=AS M kx (by have:=dc.out;omega);have dg:=a9.out.V ((aJ w2.heap.size w2).alloc (aG _) (aE #[aA (aI ⟨g,0,aF⟩) C xc] 25));rw[bv]at dg;have cq:Aq w1.heap.size I (aA (aI ⟨g,0,aF⟩) C xc) M:=Az.other dg ba (by omega);have ia:g<w2.heap.size:=(a9.out.row.lt g rfl).2;have ib:w1.heap.size<=g:=(a9.out.row.lt g rfl).1;have e2:(D++y::T).length=C:=by rw[<-b8];exact dc.out
  have dh:=cq;rw[b8]at dh;have cr:=dh.brow;have e3:=cr.cell 0 (by decide);have e4:=cr.cell 1 (by decide);have e5:=cr.cell 2 (by decide);simp only[BAt.cells,aB,aD,bH,e1]at e3 e4 e5;have di:=Aa (show ∀x∈M,∀q,w2.heap.size<=q->Ay q x.v x.ls from fun x a q af=>(a9.out.apart af).2 x a);have dj:=Aa (show ∀x∈M,∀q,q<w1.heap.size->Ay q x.v x.ls from fun x a q af=>(a9.out.far af).2 x a);have e6:=Aa (show ∀x∈M,Ay g x.v x.ls from fun x a=>(a9.out.brow.2 x a).2 g rfl);have ct:y∈M:=by rw[b8];simp
  obtain⟨c,yc,gr⟩:=(cq.ac y ct).lin.1.ae;have dk:=et.out y ct;have e7:=(ba.block w2.heap.size (by rw[<-bv];simp) (by intro e;cases e;exact absurd de (aU _))).trans cp;have cu:=Aa b8;have e8:=Aa cq;have ic:(0:Int)<=(kx:Int):=by omega
  have i2:(kx:Int)<(C:Int):=by omega
  obtain⟨yk,yn,ie,o⟩:=y;simp only at *;subst gr;have b9:=(aJ I.heap.size I).alloc (aG _) (aE #[.string yk,.string yn,aA c o.length yc] 46);have dl:=Al I (aE #[.string yk,.string yn,aA c o.length yc] 46);have dm:=Ab dl 2;simp only[aC,aB,aD]at dm;have gs:=dk.2.1;have ca:=TT B p (k+1) o.length (I.alloc (aE #[.string yk,.string yn,aA c o.length yc] 46)) (dd.V b9) (by simp only at gs;omega) (by omega);have bw:=Aa dk;have ig:(I.alloc (aE #[.string yk,.string yn,aA c o.length yc] 46)).heap.size=I.heap.size+1:=by simp
  have gt:p<I.heap.size:=by omega
  clear a4 dg cq dh cr ev b8 dk c3 cp da bv;generalize e9:o.length=nl at *;have ag:=Aa e9;clear e9;generalize fa:I.alloc (aE #[.string yk,.string yn,aA c nl yc] 46)=ih at *;go_wp2_with (go_at_call 44;(try rw[fa]);refine ca.mono ?_)
  rintro e gu ⟨nI,dn,rfl,fb,fc⟩;have fd:=Bc B p (k+1+1) 9 gu fb (by omega) (by omega) (by omega);clear ca e3 e4 e5 c4;go_wp2_with (go_at_call 44;refine fd.mono ?_)
  rintro e z ⟨av,ii,rfl,fe,ff⟩;have bx:=Ar fc ff;have ij:=bx.size;have fg:=A2 b9 (aI p);have F:=Aa (show Aq w1.heap.size z (aA (aI ⟨g,0,aF⟩) C xc) (D++⟨yk,yn,aA c nl yc,o⟩::T) from by
   rw[<-cu.out];exact Az.other (e8.out.V b9) bx (by omega))
  have fh:=Aa (show ∀x∈M,∀q∈[g,w2.heap.size,I.heap.size],Ay q x.v x.ls from fun x a q af=>by
   simp only[aO,aW,or_false]at af;rcases af with rfl | rfl | rfl
   ·exact e6.out x a
   ·exact di.out x a _ (aG _)
   ·exact di.out x a _ (by omega))
  have L:=Aa (show FD B p w1.heap.size w2.heap.size I.heap.size w1 D T ⟨yk,yn,aA c nl yc,o⟩ g C xc (k+1+1+1) yk yn (aA c nl yc) o z from
   ⟨fe,Ar gq (Ar fg bx),by omega,rfl,(bx.block w2.heap.size (by omega) (by intro e;cases e;exact absurd de (aU _))).trans ((b9.block w2.heap.size (by omega)).trans e7),(bx.block I.heap.size (by omega) (by intro e;cases e;exact absurd gt (aU _))).trans dl,by omega,by omega,by omega,by omega,by omega,by
     have:=F.out.row;rw[e2]at this;exact this,e2,by omega,fun x a=>⟨⟨(F.out.ac x (by simp only[aS,aO]at a⊢;rcases a with a | a;exact .inl a;exact .inr (.inr a))).lin,fh.out x (by rw[cu.out];simp only[aS,aO]at a⊢;rcases a with a | a;exact .inl a;exact .inr (.inr a)),fun q af=>dj.out x (by rw[cu.out];simp only[aS,aO]at a⊢;rcases a with a | a;exact .inl a;exact .inr (.inr a)) q af⟩,(et.out x (by rw[cu.out];simp only[aS,aO]at a⊢;rcases a with a | a;exact .inl a;exact .inr (.inr a))).x⟩,⟨⟨(F.out.ac ⟨yk,yn,aA c nl yc,o⟩ (by simp)).lin,fh.out _ ct,dj.out _ ct⟩,bw.out.x⟩⟩)
  clear fe fc ff bx fb dd b9 dl dm e8 e7 fa fd ez ex fg dj e6 di;have dp:w1.heap.size=w.heap.size+2:=ge;generalize ik:w2.heap.size=X at *;generalize il:I.heap.size=Y at *;go_upto_block 0 with fail
  go_cut [] from 9 to 192 (fun gv=>Ae2 B p w1.heap.size X Y w1 D ⟨yk,yn,aA c nl yc,o⟩ (k+1+1+1) gv)
  case first =>
   have f:=L.out;have im:p<Y:=by omega
   rcases(show av=0\/av=1\/av=2\/av=3\/av=4\/av=5\/av=6\/av=7\/av=8 by omega) with rfl | rfl | rfl | rfl | rfl | rfl | rfl | rfl | rfl
   ·have aa:=(aJ z.heap.size z).alloc (aG _) (aE (([⟨#[]⟩,⟨#[110,111,110,101]⟩,⟨#[116,101,97,109]⟩]:List ByteArray).map bE).toArray 9);have cb:=Bc B p (k+1+1+1) 3 _ (f.rd.V aa) (by omega) (by omega) (by omega);have Q:=Aa (f.V aa);have gw:p<z.heap.size:=f.rd.lt;clear f L F;go_wp2_with (go_at_call 44;refine cb.mono ?_)
    rintro e O ⟨ab,ac,rfl,cc,bd⟩;obtain⟨u,cv,gx⟩:=Xd z O [⟨#[]⟩,⟨#[110,111,110,101]⟩,⟨#[116,101,97,109]⟩] ab p ac bd (by omega);have K:=Q.out.grown bd cc;have be:=Ab K.yb 0;have dq:=Ad K.yb 0;simp only[aC,aB]at be;have ah:O.grownBy (O.setCell ⟨Y,0,aF⟩ (.string u)) (aI Y):=⟨rfl,rfl,rfl,by simp,fun i _ aw=>heap_setCell_other O ⟨Y,0,aF⟩ i _ (fun e=>aw (by simp[e]))⟩;have cd:(O.setCell ⟨Y,0,aF⟩ (.string u)).heap[Y]?=aI (aE #[.string u,.string yn,aA c nl yc] 46 (0,0)):=by rw[heap_setCell_same O Y 0 _ _ _ K.yb];rfl
    have ax:=Aa (K.head (bk':=u) (bn':=yn) cd bw.out.x.1 ah);have z3:(ab:Int)<3:=by omega
    have z0:(0:Int)<=(ab:Int):=by omega
    clear cb Q K cc bd ah cd cv aa;go_wp2_with fail
    go_meet;exact⟨T,g,C,xc,_,u,yn,c,nl,yc,o,by omega,ax.out⟩
   ·have aa:=(aJ z.heap.size z).alloc (aG _) (aE (([⟨#[]⟩,⟨#[65]⟩,⟨#[122,122]⟩]:List ByteArray).map bE).toArray 9);have cb:=Bc B p (k+1+1+1) 3 _ (f.rd.V aa) (by omega) (by omega) (by omega);have Q:=Aa (f.V aa);have gw:p<z.heap.size:=f.rd.lt;clear f L F;go_wp2_with (go_at_call 44;refine cb.mono ?_)
    rintro e O ⟨ab,ac,rfl,cc,bd⟩;obtain⟨u,cv,gx⟩:=Xd z O [⟨#[]⟩,⟨#[65]⟩,⟨#[122,122]⟩] ab p ac bd (by omega);have K:=Q.out.grown bd cc;have be:=Ab K.yb 1;have dq:=Ad K.yb 1;simp only[aC,aB,aD]at be;have ah:O.grownBy (O.setCell ⟨Y,1,aF⟩ (.string u)) (aI Y):=⟨rfl,rfl,rfl,by simp,fun i _ aw=>heap_setCell_other O ⟨Y,1,aF⟩ i _ (fun e=>aw (by simp[e]))⟩;have cd:(O.setCell ⟨Y,1,aF⟩ (.string u)).heap[Y]?=aI (aE #[.string yk,.string u,aA c nl yc] 46 (0,0)):=by rw[heap_setCell_same O Y 1 _ _ _ K.yb];rfl
    have ax:=Aa (K.head (bk':=yk) (bn':=u) cd (Ae1 u cv) ah);have z3:(ab:Int)<3:=by omega
    have z0:(0:Int)<=(ab:Int):=by omega
    clear cb Q K cc bd ah cd cv aa;go_wp2_with fail
    go_meet;exact⟨T,g,C,xc,_,yk,u,c,nl,yc,o,by omega,ax.out⟩
   ·have aa:=(aJ z.heap.size z).alloc (aG _) (aE #[.string yk,.string yn,aA c nl yc] 46);have ai:=Bz z #[.string yk,.string yn,aA c nl yc] 46 3 rfl;have Q:=f.V aa;have dr:=Ab f.xb 0;have dt:=Ab f.yb 0;have bz:=Ab f.yb 1;have ak:=Ab f.yb 2;simp only[aC,aB,aD]at dr dt bz ak;obtain⟨i0,aw,du,dv,dw⟩:=info_parts Bg;have ad:=Q.row;have fi:=Q.mine;have gy:X<z.heap.size:=(aH.1 f.xb).1;have gz:Y<z.heap.size:=(aH.1 f.yb).1;have dx:w1.heap.size<=z.heap.size:=f.gr.size;have ae:=Aa Q;clear f L F Q;go_wp2_with (at_builtin;refine A8 (by rfl) _ _ 23 (by rfl) w1.heap.size 46 i0 _ 3 56 underlying23 aw du dv dw rfl (by decide) _ C _ (by rfl) ad _ 1 _ (by rfl) ai (by intro ab ac;simp at ac;rcases ac with rfl | rfl | rfl <;> rfl) ?c3 ?c4 (by simp;omega) ?_)
    case c3=>unfold maxLen;omega
    case c4=>omega
    intro bf ao P ap aq a5;obtain⟨R,rfl⟩:∃R,bf=aI ⟨R,0,aF⟩:=by
     obtain⟨a',io,g0,ar⟩:=Ak ap;cases g0
     rcases ar with ar | ar
     ·omega
     ·exact ar
    have bg:R=g\/(z.alloc (aE #[.string yk,.string yn,aA c nl yc] 46)).heap.size<=R:=by
     rcases a5 with e | e
     ·left;exact aN e
     ·right;rw[aV];exact bC (aN e).symm
    have dy:(z.alloc (aE #[.string yk,.string yn,aA c nl yc] 46)).heap.size=z.heap.size+1:=by simp
    have cw:=Aa (ae.out.push (z:=⟨yk,yn,aA c nl yc,o⟩) (g':=R) (cap':=ao) aq (by simpa [dp,BAt.cells] using ap) fi bg (by rcases bg with e | e;rw[e];exact ae.out.gX;omega) (by rcases bg with e | e;rw[e];exact ae.out.gY;omega) (by omega))
    have bh:=(aq.block X (by omega) (by intro e;have:=aN e;exact ae.out.gX this.symm)).trans ae.out.xb;have be:=Ab bh 0;have dq:=Ad bh 0;simp only[aC,aB]at be;clear ap aq a5 ad ai fi ae aa;go_wp2_with fail
    go_meet;exact⟨T++[⟨yk,yn,aA c nl yc,o⟩],R,C+1,ao,_,yk,yn,c,nl,yc,o,by omega,cw.out⟩
   ·have ak:=Ab f.yb 2;simp only[aC,aB,aD]at ak;by_cases ay:nl=0
    ·have bi:¬(0:Int)<(nl:Int):=by omega
     clear f F;go_wp2_with fail
     go_meet;exact⟨T,g,C,xc,_,yk,yn,c,nl,yc,o,by omega,L.out⟩
    ·have bi:(0:Int)<(nl:Int):=by omega
     have fj:nI<nl:=by
      rcases dn with h | h
      ·exact h
      ·exact absurd h.1 ay
     have i3:(0:Int)<=(nI:Int):=by omega
     have i4:(nI:Int)<(nl:Int):=by omega
     obtain⟨A,x,E,S,az⟩:=AS o nI (by have:=ag.out;omega);obtain⟨l,rfl⟩:∃l,c=aI ⟨l,0,aF⟩:=KI (F.out.ac ⟨yk,yn,aA c nl yc,o⟩ (by simp)).row (fun ar=>ay (ag.out.symm.trans ar));have bj:=ag.out;have a4:=fun n (fk:n<=k+1+1+1) W (ce:Rd B W p n)=>Bc B p n 3 W ce (by omega) (by omega) (by omega)
     have N:=Aa (show P6 B p w1.heap.size X Y w1 D T ⟨yk,yn,aA (aI ⟨l,0,aF⟩) nl yc,A++x::E⟩ g C xc yk yn (k+1+1+1) z from by rw[<-S];exact⟨f,F.out⟩);have aj:(A++x::E).length=nl:=by rw[<-S];exact bj
     have b0:=Aa S;have bl:=Aa aj;have cf:=Aa az;clear f F S aj az bj L;go_upto_region 20 with fail
     refine Rv N.out (by omega) cf.out bl.out (by kernel_rfl) (by kernel_rfl) (by kernel_rfl) (by kernel_rfl) ?_;intro v u k' W' a' V fl al;simp only[Ai,CL,aK,aP,aQ]at V;subst V;rw[<-b0.out]at al;have cg:=Aa al;clear al N a4;go_wp2_with fail
     go_meet;exact⟨T,g,C,xc,_,yk,yn,aI ⟨l,0,aF⟩,nl,yc,_,by omega,cg.out⟩
   ·have ak:=Ab f.yb 2;simp only[aC,aB,aD]at ak;by_cases ay:nl=0
    ·have bi:¬(0:Int)<(nl:Int):=by omega
     clear f F;go_wp2_with fail
     go_meet;exact⟨T,g,C,xc,_,yk,yn,c,nl,yc,o,by omega,L.out⟩
    ·have bi:(0:Int)<(nl:Int):=by omega
     have fj:nI<nl:=by
      rcases dn with h | h
      ·exact h
      ·exact absurd h.1 ay
     have i3:(0:Int)<=(nI:Int):=by omega
     have i4:(nI:Int)<(nl:Int):=by omega
     obtain⟨A,⟨xk,xv,Z⟩,E,S,az⟩:=AS o nI (by have:=ag.out;omega);obtain⟨l,rfl⟩:∃l,c=aI ⟨l,0,aF⟩:=KI (F.out.ac ⟨yk,yn,aA c nl yc,o⟩ (by simp)).row (fun ar=>ay (ag.out.symm.trans ar));have bj:=ag.out;have N:=Aa (show P6 B p w1.heap.size X Y w1 D T ⟨yk,yn,aA (aI ⟨l,0,aF⟩) nl yc,A++⟨xk,xv,Z⟩::E⟩ g C xc yk yn (k+1+1+1) z from by rw[<-S];exact⟨f,F.out⟩);obtain⟨xa,cx,ch,ci⟩:=Ak N.out.2.bm.ac.words;simp only at ch ci;subst ch;have fm:=N.out.2.bm.ac.cell 1 (by decide);simp only[LAt.cells,aB,aD,az]at fm;have b0:=Aa S;have cf:=Aa az;have g1:Z.length<=3:=by
      have:=(bw.out.2.2 ⟨xk,aA xa Z.length cx,Z⟩ (by simp only;rw[S];simp)).1;exact this
     clear f F S az bj;by_cases bb:Z.length=0
     ·have ip:¬(0:Int)<(Z.length:Int):=by omega
      generalize Z.length=nw at *;go_wp2_with fail
      go_meet;exact⟨T,g,C,xc,_,yk,yn,aI ⟨l,0,aF⟩,nl,yc,o,by omega,L.out⟩
     ·obtain⟨s,bm,rfl⟩:∃s bm,Z=s::bm:=by
       cases Z with
       | nil=>exact absurd rfl bb
       | cons s bm=>exact⟨s,bm,rfl⟩
      obtain⟨r,rfl⟩:∃r,xa=aI ⟨r,0,aF⟩:=by
       rcases ci with h | h
       ·exact absurd h bb
       ·exact h
      have g2:(0:Int)<((s::bm).length:Int):=by omega
      obtain⟨nw,cy⟩:∃nw,(s::bm).length=nw:=⟨_,rfl⟩;rw[cy]at N fm g2;have g3:=fun n (fk:n<=k+1+1+1) W (ce:Rd B W p n)=>P4 B p n W ce (by omega)
      have fn:=Aa cy;clear cy bb ci g1 L;go_upto_region 23 with fail
      have aj:(A++(⟨xk,aA (aI ⟨r,0,aF⟩) nw cx,s::bm⟩:LAt)::E).length=nl:=by
       have:=ag.out;rw[b0.out]at this;simpa using this
      refine Rw N.out (by omega) cf.out aj fn.out (by kernel_rfl) (by kernel_rfl) (by kernel_rfl) (by kernel_rfl) ?_;intro v t k' W' a' V fl al;simp only[Ai,CL,aK,aP,aQ]at V;subst V;have dz:=b0.out;rw[fn.out]at dz;rw[<-dz]at al;have cg:=Aa al;clear al N g3 dz;go_wp2_with fail
      go_meet;exact⟨T,g,C,xc,_,yk,yn,aI ⟨l,0,aF⟩,nl,yc,_,by omega,cg.out⟩
   ·have ak:=Ab f.yb 2;simp only[aC,aB,aD]at ak;by_cases ay:nl=0
    ·have bi:¬(0:Int)<(nl:Int):=by omega
     clear f F;go_wp2_with fail
     go_meet;exact⟨T,g,C,xc,_,yk,yn,c,nl,yc,o,by omega,L.out⟩
    ·have bi:(0:Int)<(nl:Int):=by omega
     have fj:nI<nl:=by
      rcases dn with h | h
      ·exact h
      ·exact absurd h.1 ay
     have i3:(0:Int)<=(nI:Int):=by omega
     have i4:(nI:Int)<(nl:Int):=by omega
     obtain⟨A,⟨xk,xv,Z⟩,E,S,az⟩:=AS o nI (by have:=ag.out;omega);obtain⟨l,rfl⟩:∃l,c=aI ⟨l,0,aF⟩:=KI (F.out.ac ⟨yk,yn,aA c nl yc,o⟩ (by simp)).row (fun ar=>ay (ag.out.symm.trans ar));have bj:=ag.out;have iq:nl<=7:=by have:=bw.out.2.1;simp only at this;omega
     have N:=Aa (show P6 B p w1.heap.size X Y w1 D T ⟨yk,yn,aA (aI ⟨l,0,aF⟩) nl yc,A++⟨xk,xv,Z⟩::E⟩ g C xc yk yn (k+1+1+1) z from by rw[<-S];exact⟨f,F.out⟩);obtain⟨xa,cx,ch,ci⟩:=Ak N.out.2.bm.ac.words;simp only at ch ci;subst ch;have aj:(A++(⟨xk,aA xa Z.length cx,Z⟩:LAt)::E).length=nl:=by rw[<-S];exact bj
     have bl:=Aa aj;have cf:=Aa az;have b0:=Aa S;have dx:w1.heap.size<=z.heap.size:=f.gr.size;clear f F S az bj L aj;generalize cy:Z.length=nw at *;go_upto_region 26 with fail
     refine Ry N.out cf.out bl.out (by omega) dx (by kernel_rfl) (by kernel_rfl) (by kernel_rfl) ?_;rintro v W' a' ir V ⟨xo,g4,g5,rfl⟩ al;simp only[Ai,CL,aK,aP,aQ]at V;subst V;rw[<-b0.out]at al;have cg:=Aa al;clear al N;go_wp2_with fail
     go_meet;exact⟨T,g,C,xc,_,yk,yn,xo,g4,g5,_,by omega,cg.out⟩
   ·have ak:=Ab f.yb 2;simp only[aC,aB,aD]at ak;by_cases ay:nl<=1
    ·have bi:¬(1:Int)<(nl:Int):=by omega
     clear f F;go_wp2_with fail
     go_meet;exact⟨T,g,C,xc,_,yk,yn,c,nl,yc,o,by omega,L.out⟩
    ·have bi:(1:Int)<(nl:Int):=by omega
     have gl:(0:Int)<(nl:Int):=by omega
     obtain⟨⟨k0,v0,a2⟩,⟨am,v1,u1⟩,E,rfl⟩:∃d0 d1 E,o=d0::d1::E:=by
      have:=ag.out
      match o,this with
      | [],h=>simp at h;omega
      | [_],h=>simp at h;omega
      | d0::d1::E,_=>exact⟨d0,d1,E,rfl⟩
     obtain⟨l,rfl⟩:∃l,c=aI ⟨l,0,aF⟩:=KI (F.out.ac ⟨yk,yn,aA c nl yc,⟨k0,v0,a2⟩::⟨am,v1,u1⟩::E⟩ (by simp)).row (by simp);obtain⟨a0,c0,fo,_⟩:=Ak ((F.out.ac ⟨yk,yn,aA (aI ⟨l,0,aF⟩) nl yc,⟨k0,v0,a2⟩::⟨am,v1,u1⟩::E⟩ (by simp)).words ⟨k0,v0,a2⟩ (by simp));obtain⟨a1,cz,fp,_⟩:=Ak ((F.out.ac ⟨yk,yn,aA (aI ⟨l,0,aF⟩) nl yc,⟨k0,v0,a2⟩::⟨am,v1,u1⟩::E⟩ (by simp)).words ⟨am,v1,u1⟩ (by simp));simp only at fo fp;subst fo fp;simp only at *;have aj:=ag.out;generalize it:a2.length=bo at *;generalize iu:u1.length=n1 at *;have fq:=(aJ z.heap.size z).alloc (aG _) (aE #[.string k0,aA a0 bo c0] 115);have d2:=F.out.V fq;have bp:=f.V fq;have d3:=(F.out.bm.ac).size aj;have d4:=(d2.bm.ac).size aj;have g6:=d3.cellAt 0 (by omega);have g7:=d3.cellAt 1 (by omega);have d5:=d4.cellAt 2 (by omega);have g8:=d4.cellAt 3 (by omega);simp only[LAt.cells,List.flatMap_cons,List.cons_append,List.nil_append,aB,aD]at g6 g7 d5 g8;have g9:=Ab bp.yb 2;simp only[aC,aB,aD]at g9;have fr:=Aa d2;have ha:=Aa ((F.out.ac ⟨yk,yn,aA (aI ⟨l,0,aF⟩) nl yc,⟨k0,aA a0 bo c0,a2⟩::⟨am,aA a1 n1 cz,u1⟩::E⟩ (by simp)).row.lt l rfl).2;have K:=Aa bp;have bl:=Aa aj;clear f F d2 bp d3 d4 aj L;have hb:l≠Y:=Ff (K.out.mine.1.2.1 Y (by simp)).1 (by simp);have iv:l<z.heap.size:=ha.out;have hc:=Al z (aE #[.string k0,aA a0 bo c0] 115);have iw:(z.alloc (aE #[.string k0,aA a0 bo c0] 115)).heap.size=z.heap.size+1:=by simp
     generalize c1:z.alloc (aE #[.string k0,aA a0 bo c0] 115)=O at *;go_upto_region 30 with fail
     (try rw[c1])
     refine Rx (x0:=⟨k0,aA a0 bo c0,a2⟩) (u1:=u1) ⟨K.out,fr.out⟩ bl.out (by kernel_rfl) (by kernel_rfl) ?_;intro v W' a' V a6 b1;simp only[Ai,CL,aK,aP,aQ]at V;subst V;have fs:=Aa (FD.swap (x0:=⟨k0,aA a0 bo c0,a2⟩) (x1:=⟨am,aA a1 n1 cz,u1⟩) a6.1 a6.2 bl.out);obtain⟨ys,cj,d6,_⟩:=BT [.string am,aA a1 n1 cz] 0 W' _ (a6.2.bm.ac.size bl.out);have hd:Y<W'.heap.size:=(aH.1 a6.1.yb).1;have ft:=(d6.block Y hd (by intro e;cases e;exact hb rfl)).trans a6.1.yb;have d7:=(d6.block z.heap.size (by have:=b1.size;omega) (by intro e;cases e;omega)).trans ((b1.block z.heap.size (by omega)).trans hc);have z0:=Ab ft 2;have bu:=Ab d7 0;have z2:=Ab d7 1;simp only[aC,aB,aD]at z0 bu z2;obtain⟨dm,ix⟩:=aM.1 (CJ cj 2 2 (by omega) 0 (by omega)).1;obtain⟨iy,iz⟩:=aM.1 (CJ cj 2 2 (by omega) 1 (by omega)).1;have i1:=cj.frozenAt 2;have i5:=cj.frozenAt 3;clear a6 cj d6 ft d7 fr K c1;simp only[LAt.cells]at fs;generalize W'.setCells l 0 [.string am,aA a1 n1 cz]=P at *;go_wp2_with fail
     go_meet;exact⟨T,g,C,xc,_,yk,yn,aI ⟨l,0,aF⟩,nl,yc,_,by omega,fs.out⟩
   ·have bz:=Ab f.yb 1;simp only[aC,aB,aD]at bz;have fu:=f.yb;have fv:(z.setRow Y #[.string ⟨#[98,101,114,116,104]⟩,.string yn,aA aF 0 0]).heap[Y]?=aI (aE #[.string ⟨#[98,101,114,116,104]⟩,.string yn,aA aF 0 0] 46 (0,0)):=setRow_heap _ _ _ _ _ _ fu;have bp:=f.lay (bk':=⟨#[98,101,114,116,104]⟩) (bn':=yn) (bv':=aA aF 0 0) (ls':=[]) fv (Ba z Y _) ⟨⟨⟨NF _,by intro x a;cases a⟩,fun q _=>⟨.inl rfl,by intro x a;cases a⟩,fun q _=>⟨.inl rfl,by intro x a;cases a⟩⟩,bw.out.x.1,by simp,by intro x a;cases a⟩;have ca:=Bc B p (k+1+1+1) 2 _ bp.rd (by omega) (by omega) (by omega);have K:=Aa bp;clear f L F bp fv;go_wp2_with (with_reducible show wpList _ _ _ (bB _ (aZ _ (aR 7) _) _ _ _ _::_) _ _;refine wpList_store_row rfl 46 _ _ rfl Y #[.string ⟨#[98,101,114,116,104]⟩,.string yn,aA aF 0 0] ?_ ?_ 46 _ fu ?_ ?_ ?_ ?_)
    all_goals (first | rfl | kernel_rfl | exact⟨rfl,rfl,rfl⟩ | (obtain⟨i9,he,_,hf,_⟩:=info_parts Bg;exact⟨i9,he,hf⟩) | skip)
    generalize c1:z.setRow Y #[.string ⟨#[98,101,114,116,104]⟩,.string yn,aA aF 0 0]=O at *;go_wp2_with (go_at_call 44;refine ca.mono ?_)
    rintro e P ⟨ab,ac,rfl,fw,aq⟩;have b2:=K.out.grown aq fw;have ax:=Aa b2;obtain⟨m,i6,i7⟩:∃m:Nat,(10:Int)+(ab:Int)=(m:Int)/\m<=11:=⟨10+ab,by omega,by omega⟩;have hg:=b2.yb;have fx:Y<P.heap.size:=(aH.1 b2.yb).1;have bh:X<P.heap.size:=(aH.1 b2.xb).1;have i8:g<P.heap.size:=(b2.row.lt g rfl).2;obtain⟨i0,aw,hh,hi,ew⟩:=info_parts CK;have hj:=Aa bw.out.x.1;clear ca K fw aq b2 bz c1;go_wp2;go_loopw [11] (fun i wr=>Aef P.heap.size Y P yn i wr) (fun i _=>20-(intOf i).toNat)
    case atStart=>exact⟨0,aF,0,[],rfl,by omega,rfl,bF _ _,hg,TW _ _,by simp⟩
    case round =>
     obtain⟨j,a',d8,ls,rfl,ja,d9,c2,b3,b4,ck⟩:=hrel;by_cases jb:j<m
     ·have hk:(j:Int)<(m:Int):=by omega
      have fy:=Ab b3 2;simp only[aC,aB,aD]at fy;have bq:=MD wr (aT (97+j));rw[VH j (by omega)]at bq;obtain⟨ds,ea,cl⟩:∃ds:ByteArray,ds.size=1/\ds=⟨#[aT (97+j)]⟩:=⟨_,rfl,rfl⟩;rw[<-cl]at bq;have hl:¬ 9223372036854775807<1+ds.size:=by omega
      have hm:=Ad b3 2;have eb:=Aa b4;have b5:=Aa c2;have fz:=Aa b3;have f0:=Aa ck;have ec:=Aa d9;clear b4 c2 b3 ck d9 cl ax;have hn:P.heap.size<=wr.heap.size:=b5.out.size;obtain⟨H,a7⟩:∃H:ByteArray,H=⟨#[109]⟩++ds:=⟨_,rfl⟩;have f1:H.size=2:=by rw[a7,aX,ea];rfl
      have ed:Below wr.heap.size wr ((wr.alloc (aE #[.int .u8 (97+(j:Int))] 5)).alloc (aE #[.string H] 9)):=((aJ _ _).alloc (aG _) _).alloc (by simp) _;have ho:((wr.alloc (aE #[.int .u8 (97+(j:Int))] 5)).alloc (aE #[.string H] 9)).heap.size=wr.heap.size+2:=by simp
      have o2:=Yx wr (aE #[.int .u8 (97+(j:Int))] 5) H;have ai:=Bz ((wr.alloc (aE #[.int .u8 (97+(j:Int))] 5)).alloc (aE #[.string H] 9)) #[.string ⟨#[109,97,114,107]⟩,aA (aI ⟨wr.heap.size+1,0,aF⟩) 1 1] 115 2 rfl;have f2:=(aJ ((wr.alloc (aE #[.int .u8 (97+(j:Int))] 5)).alloc (aE #[.string H] 9)).heap.size ((wr.alloc (aE #[.int .u8 (97+(j:Int))] 5)).alloc (aE #[.string H] 9))).alloc (aG _) (aE #[.string ⟨#[109,97,114,107]⟩,aA (aI ⟨wr.heap.size+1,0,aF⟩) 1 1] 115);have ad:(((wr.alloc (aE #[.int .u8 (97+(j:Int))] 5)).alloc (aE #[.string H] 9)).alloc (aE #[.string ⟨#[109,97,114,107]⟩,aA (aI ⟨wr.heap.size+1,0,aF⟩) 1 1] 115)).ownsRow P.heap.size 115 2 (aA a' j d8) j (ls.flatMap LAt.cells):=by
       have:=eb.out.row;rw[ec.out]at this;exact AL (AL this ed) f2
      rw[ho]at ai;have br:P.heap.size<=(((wr.alloc (aE #[.int .u8 (97+(j:Int))] 5)).alloc (aE #[.string H] 9)).alloc (aE #[.string ⟨#[109,97,114,107]⟩,aA (aI ⟨wr.heap.size+1,0,aF⟩) 1 1] 115)).heap.size:=by simp;omega
      rw[a7]at ai ad br;go_wp2_with (at_builtin;refine A8 (by rfl) _ _ 44 (by rfl) P.heap.size 115 i0 _ 2 40 underlying44 aw hh hi ew rfl (by decide) _ j _ (by rfl) ad _ 1 _ (by rfl) ai (by intro ab ac;simp at ac;rcases ac with rfl | rfl <;> rfl) ?c3 ?c4 br ?_)
      case c3=>unfold maxLen;omega
      case c4=>omega
      rw[<-a7];intro bf ao ee ap f3 a5;have a3:=IV (x:=⟨⟨#[109,97,114,107]⟩,aA (aI ⟨wr.heap.size+1,0,aF⟩) 1 1,[H.data.toList]⟩) eb.out hn o2 ed (by rw[ec.out];exact ap) f3 (by rcases a5 with e | e;exact .inl e;exact .inr (by rw[e];simp))
      have c5:=(a3.2.block Y fx).trans fz.out;have hp:=Ab c5 2;have jc:=Ad c5 2;simp only[aC,aB,aD]at hp;have ah:=E4 ee Y 2 (aA bf (j+1) ao);have ef:=Aa (show Aef P.heap.size Y P yn (.int .i64 ((j+1:Nat):Int)) (ee.setCell ⟨Y,2,aF⟩ (aA bf (j+1) ao)) from by
       refine⟨j+1,bf,ao,_,rfl,by omega,?_,⟨ah.os.trans (a3.2.os.trans b5.out.os),ah.tape.trans (a3.2.tape.trans b5.out.tape),ah.output.trans (a3.2.output.trans b5.out.output),?_,fun i f4 f5=>?_⟩,?_,a3.1.setCell ⟨Y,2,aF⟩ fx _,?_⟩
       ·rw[List.length_append,ec.out];rfl
       ·have:=ah.size;have:=a3.2.size;omega
       ·rw[ah.block i (by have:=a3.2.size;omega) f5,a3.2.block i f4];exact b5.out.block i f4 f5
       ·rw[heap_setCell_same ee Y 2 _ _ _ c5];rfl
       ·intro x a;rcases aS.1 a with h | h
        ·exact f0.out x h
        ·rw[aL.1 h];refine⟨aG _,fun y eg=>?_⟩;rw[aL.1 eg];exact bC f1)
      clear a3 c5 ah ap f3 a5 ad ai o2 ed f2 br eb b5 fz f0 fy hm bq;go_wp2_with fail
      go_roundw;case rel=>exact(by have:=ef.out;simpa using this)
      case measure=>simp[intOf];omega
     ·have hk:¬(j:Int)<(m:Int):=by omega
      have f6:=ax.out.lay (bk':=⟨#[98,101,114,116,104]⟩) (bn':=yn) (bv':=aA a' j d8) (ls':=ls) b3 c2 ⟨⟨b4.lin,fun q af=>b4.farAll (by simp only[aO,aW,or_false]at af;rcases af with rfl | rfl | rfl <;> assumption),fun q af=>b4.farAll (by have:=ax.out.gr.size;have:=ax.out.cw;omega)⟩,hj.out,by omega,fun x a=>⟨bG (ck x a).1 (by decide),fun y eg=>bG ((ck x a).2 y eg) (by decide)⟩⟩
      have hq:=Aa f6;clear f6 b4 c2 b3 ck d9 ax;go_wp2_with fail
      go_meet;exact⟨T,g,C,xc,_,_,yn,a',j,d8,ls,by omega,hq.out⟩
   ·have jd:C<=60:=by have:=dc.out;omega
    clear f F;go_wp2;go_loopw [12] (fun i wr=>Aee B p w1.heap.size X Y w1 D ⟨yk,yn,aA c nl yc,o⟩ C (k+1+1+1) yk yn (aA c nl yc) o i wr) (fun i _=>70-(intOf i).toNat)
    case atStart=>exact⟨0,T,g,xc,_,rfl,by omega,aG _,L.out⟩
    case round =>
     obtain⟨j,eh,G,an,kk',rfl,je,jf,J⟩:=hrel;have N:=Aa J;have a4:=fun n (fk:n<=k+80) W (ce:Rd B W p n)=>Bc B p n 2 W ce (by omega) (by omega) (by omega)
     clear J L;go_upto_region 9 with fail
     refine TX (fun kk W=>FD B p w1.heap.size X Y w1 D eh ⟨yk,yn,aA c nl yc,o⟩ G (C+j) an kk yk yn (aA c nl yc) o W) B (fun _ _ h=>h.rd) (fun _ _ h=>by have:=Ab h.xb 0;simpa using this) (fun _ _ _ _ h a6 hr=>h.grown a6 hr) (fun _ _ h=>h.V (aJ _ _).drew) N.out (by omega) (by omega) (by kernel_rfl) (by kernel_rfl) (by kernel_rfl) ?_;intro v b k' W' a' V ei b1 fl cm;simp only[Ai,CL,aK,aP,aQ,ei]at V;subst V;have cn:=Aa cm;cases b
     ·clear cm N a4 b1 ei;go_wp2_with fail
      go_meet;exact⟨eh,G,C+j,an,k',yk,yn,c,nl,yc,o,by omega,cn.out⟩
     ·have jg:=b1 rfl;have f7:=Ab cm.xb 0;have hs:=Ad cm.xb 0;simp only[aC,aB]at f7;clear cm N a4 b1 ei;have jh:j<=60:=by omega
      have bq:=Aa4 W' (aT (97+j/26)) (aT (97+j%26));rw[VH (j/26) (by omega),VH (j%26) (by omega),show ((j/26:Nat):Int)=(j:Int)/26 from by omega,show ((j%26:Nat):Int)=(j:Int)%26 from by omega]at bq;obtain⟨ds,ea,cl⟩:∃ds:ByteArray,ds.size=2/\ds=⟨#[aT (97+j/26),aT (97+j%26)]⟩:=⟨_,rfl,rfl⟩;rw[<-cl]at bq;have hl:¬ 9223372036854775807<1+ds.size:=by omega
      obtain⟨H,a7⟩:∃H:ByteArray,H=⟨#[116]⟩++ds:=⟨_,rfl⟩;have f1:H.size=3:=by rw[a7,aX,ea];rfl
      obtain⟨i0,aw,du,dv,dw⟩:=info_parts Bg;have aa:Below W'.heap.size W' ((W'.alloc (aE #[.int .u8 (97+(j:Int)/26),.int .u8 (97+(j:Int)%26)] 5)).alloc (aE #[.string ⟨#[116,101,97,109]⟩,.string H,aA aF 0 0] 46)):=((aJ _ _).alloc (aG _) _).alloc (by simp) _;have ai:=Bz (W'.alloc (aE #[.int .u8 (97+(j:Int)/26),.int .u8 (97+(j:Int)%26)] 5)) #[.string ⟨#[116,101,97,109]⟩,.string H,aA aF 0 0] 46 3 rfl;rw[aV]at ai;have Q:=cn.out.V aa;have ad:=Q.row;have dy:((W'.alloc (aE #[.int .u8 (97+(j:Int)/26),.int .u8 (97+(j:Int)%26)] 5)).alloc (aE #[.string ⟨#[116,101,97,109]⟩,.string H,aA aF 0 0] 46)).heap.size=W'.heap.size+2:=by simp
      have dx:w1.heap.size<=W'.heap.size:=cn.out.gr.size;have gy:X<W'.heap.size:=(aH.1 cn.out.xb).1;have gz:Y<W'.heap.size:=(aH.1 cn.out.yb).1;have br:w1.heap.size<=((W'.alloc (aE #[.int .u8 (97+(j:Int)/26),.int .u8 (97+(j:Int)%26)] 5)).alloc (aE #[.string ⟨#[116,101,97,109]⟩,.string H,aA aF 0 0] 46)).heap.size:=by omega
      have ae:=Aa Q;have ht:=Aa a7;rw[a7]at ai ad br;clear Q aa cl a7;generalize ji:C+j=ej at *;go_wp2_with (at_builtin;refine A8 (by rfl) _ _ 23 (by rfl) w1.heap.size 46 i0 _ 3 56 underlying23 aw du dv dw rfl (by decide) _ ej _ (by rfl) ad _ 1 _ (by rfl) ai (by intro ab ac;simp at ac;rcases ac with rfl | rfl | rfl <;> rfl) ?c3 ?c4 br ?_)
      case c3=>unfold maxLen;omega
      case c4=>omega
      rw[<-ht.out];intro bf ao P ap aq a5;obtain⟨R,rfl⟩:∃R,bf=aI ⟨R,0,aF⟩:=KI ap (by omega);have bg:R=G\/((W'.alloc (aE #[.int .u8 (97+(j:Int)/26),.int .u8 (97+(j:Int)%26)] 5)).alloc (aE #[.string ⟨#[116,101,97,109]⟩,.string H,aA aF 0 0] 46)).heap.size<=R:=by
       rcases a5 with e | e
       ·left;exact aN e
       ·right;rw[dy];exact bC (aN e).symm
      have cw:=Aa (ae.out.push (z:=⟨⟨#[116,101,97,109]⟩,H,aA aF 0 0,[]⟩) (g':=R) (cap':=ao) aq (by simpa [dp,BAt.cells] using ap) ⟨⟨⟨NF _,by intro x a;cases a⟩,fun q _=>⟨.inl rfl,by intro x a;cases a⟩,fun q _=>⟨.inl rfl,by intro x a;cases a⟩⟩,by simp only;omega,by simp,by intro x a;cases a⟩ bg (by rcases bg with e | e;rw[e];exact ae.out.gX;omega) (by rcases bg with e | e;rw[e];exact ae.out.gY;omega) (by omega))
      have bh:=(aq.block X (by omega) (by intro e;have:=aN e;exact ae.out.gX this.symm)).trans ae.out.xb;have be:=Ab bh 0;have dq:=Ad bh 0;simp only[aC,aB]at be;have ef:=Aa (show Aee B p w1.heap.size X Y w1 D ⟨yk,yn,aA c nl yc,o⟩ C (k+1+1+1) yk yn (aA c nl yc) o (.int .i64 ((j+1:Nat):Int)) (P.setCell ⟨X,0,aF⟩ (aA (aI ⟨R,0,aF⟩) (ej+1) ao)) from⟨j+1,_,R,ao,k',rfl,by omega,by omega,by rw[show C+(j+1)=ej+1 by omega];exact cw.out⟩);clear ap aq a5 ad ai ae cw bh br dy bq f7 hs;go_wp2_with fail
      go_roundw;case rel=>exact(by have:=ef.out;simpa using this)
      case measure=>simp[intOf];omega
  case rest =>
   obtain⟨eh,G,n',an,kk',bk,bn,a',m',co,ls',jj,J⟩:=hcut;obtain⟨bt,hu⟩:∃bt,bt=wc:=⟨_,rfl⟩;subst hu;have au:=J.out (d:=100) (w:=w) (k:=k) dp gf (by omega) en #[aA (aI ⟨G,0,aF⟩) n' an];have dr:=Ab J.xb 0;have dt:=Ab J.yb 0;have bz:=Ab J.yb 1;have ak:=Ab J.yb 2;simp only[aC,aB,aD]at dr dt bz ak;have hv:D.length=kx:=e1;rw[hv]at au;have jk:(kx:Int)<(n':Int):=by
    have:=J.len;simp at this;omega
   have hw:=J.gr.block (w.heap.size+1) (by omega) (by intro e;cases e;omega);have ek:=au.2.2.1;have f8:=au.2.1.trans J.xb;have f9:=au.2.2.2.trans (hw.trans gg.out);have ga:=Aa au.1;have ad:=J.row;obtain⟨a2,am⟩:=aM.1 (ek 0 (by omega)).1;have gb:=(ek 0 (by omega)).2;have c6:=(ad.stored (kx*3) (.string bk)).1;obtain⟨u1,hx⟩:=aM.1 (CJ c6 (kx*3) 3 (by omega) 1 (by omega)).1;have hy:=c6.frozenAt (kx*3+1);have el:=(c6.stored (kx*3+1) (.string bn)).1;obtain⟨u2,hz⟩:=aM.1 (CJ el (kx*3) 3 (by omega) 2 (by omega)).1;have h0:=el.frozenAt (kx*3+2);rw[bH]at am gb;have d5:((((bt.setCell ⟨G,kx*3,aF⟩ (.string bk)).setCell ⟨G,kx*3+1,aF⟩ (.string bn)).setCell ⟨G,kx*3+2,aF⟩ (aA a' m' co)).cell? ⟨X,0,aF⟩)=aI (aA (aI ⟨G,0,aF⟩) n' an):=(Ab (w:=bt.setCells G (kx*3) [.string bk,.string bn,aA a' m' co]) f8 0);have em:(((bt.setCell ⟨G,kx*3,aF⟩ (.string bk)).setCell ⟨G,kx*3+1,aF⟩ (.string bn)).setCell ⟨G,kx*3+2,aF⟩ (aA a' m' co)).heap[w.heap.size+1]?=aI (aE #[aA aF 0 0] 25 (0,0)):=f9;clear ad c6 el;clear au J L F;go_wp2_with (with_reducible show wpList _ _ _ (bB _ (aZ _ (aR 4) _) _ _ _ _::_) _ _;refine wpList_store_row rfl 25 (aR 4) (aR 198) rfl (w.heap.size+1) #[aA (aI ⟨G,0,aF⟩) n' an] ?_ ?_ 25 _ em ?_ ?_ ?_ ?_)
   all_goals (first | rfl | kernel_rfl | exact AB | skip)
   have z5:(bA (((bt.setCell ⟨G,kx*3,aF⟩ (.string bk)).setCell ⟨G,kx*3+1,aF⟩ (.string bn)).setCell ⟨G,kx*3+2,aF⟩ (aA a' m' co)) (w.heap.size+1) #[aA (aI ⟨G,0,aF⟩) n' an]).heap[w.heap.size+1]?=aI (aE #[aA (aI ⟨G,0,aF⟩) n' an] 25 (0,0)):=setRow_heap _ _ _ _ _ _ em;have bc:=Ab z5 0;simp only[aC,aB]at bc;have gc:=ga.out;clear ga d5 am gb hx hy hz h0 em ek f8 f9;generalize gd:bA (((bt.setCell ⟨G,kx*3,aF⟩ (.string bk)).setCell ⟨G,kx*3+1,aF⟩ (.string bn)).setCell ⟨G,kx*3+2,aF⟩ (aA a' m' co)) (w.heap.size+1) #[aA (aI ⟨G,0,aF⟩) n' an]=h2 at bc z5⊢;have h3:Eg 100 B p k w (aY (bD #[aA (aI ⟨G,0,aF⟩) n' an])) h2:=by rw[<-gd];exact gc
   clear gc gd;exact bodyPost_ret (v:=bD #[aA (aI ⟨G,0,aF⟩) n' an]) (by simp[results,results104,go_sem,bc]) rfl h3
variable {n c:Nat}{W W':World}
theorem Eg.ret{d' k0:Nat}{a:Option Addr}(h:Eg d B p k0 W (aY (bD #[aA a n c])) W')(g:w.grownBy W (aI p))(r:w.heap.size<W.heap.size)(s:p<w.heap.size)(y:k0+d<=k+d')(cs:Array Value):Eg d' B p k w (aY (bD #[aA a n c])) (W'.setRow w.heap.size cs):=by
 obtain⟨a',n',z,bs,k',t,A,u,f,v,x,l⟩:=h;cases t
 have b:=Ba W' w.heap.size cs;have C:=f.size;refine⟨a,n,c,bs,k',rfl,by omega,AN.rd u (AN.ai (S:=[w.heap.size]) b (fun q m=>by cases m;simp)) (fun i j=>by rw[aL.1 j];exact s),⟨b.os.trans (f.os.trans g.os),b.tape.trans (f.tape.trans g.tape),b.output.trans (f.output.trans g.output),?_,fun i j o=>?_⟩,v.far (l _ r) b,x,fun q m=>l q (by omega)⟩
 ·have:=b.size;omega
 ·rw[b.block i (by omega) (by intro e;cases e;omega),f.block i (by omega) o];exact g.block i j o
theorem KJ(B p k:Nat)(w:World)(h:Rd B w p k)(ae:k<=400000):Calls prog 43 #[.pointer (aI ⟨p,0,aF⟩)] w fun e w'=>Eg 800 B p k w e w':=by
 have x:=h.lt;have U:Rd B (w.alloc (aE #[aA aF 0 0] 25)) p k:=h.V ((aJ _ _).alloc (aG _) _);have z:w.grownBy (w.alloc (aE #[aA aF 0 0] 25)) (aI p):=Ct (World.grownBy_alloc _ _ _) _;have V:=Al w (aE #[aA aF 0 0] 25);have af:(w.alloc (aE #[aA aF 0 0] 25)).heap.size=w.heap.size+1:=by simp
 generalize A:w.alloc (aE #[aA aF 0 0] 25)=w1 at *;have C:=VG B p k w1 U (by omega);go_enter func43,ntmps43;go_wp2_with (go_at_call 78;(try rw[A]);refine C.mono ?_)
 rintro e w2 ⟨v,bs,r,rfl,ag,D,E,s,ah,F⟩;obtain⟨a,c,rfl,_⟩:=Ak s.row;have l:=(aJ w2.heap.size w2).alloc (aG _) (aE #[aA a bs.length c] 25);have G:=Al w2 (aE #[aA a bs.length c] 25);have H:=D.V l;have I:=Bc B p r 16 _ H (by omega) (by omega) (by omega);have J:=Aa (s.V l);have m:=Aa F;have ai:=E.size;have K:=Ar E (A2 l (aI p));clear C s F D H A;generalize L:bs.length=nl at *;have t:=Aa L;clear L;generalize u:w2.alloc (aE #[aA a nl c] 25)=w3 at *;go_wp2_with (go_at_call 44;(try rw[u]);refine I.mono ?_)
 rintro e f ⟨y,aj,rfl,M,n⟩;have N:=(n.block w2.heap.size (by rw[<-u];simp) (by intro e;cases e;omega)).trans G;have X:=Ab N 0;simp only[aC,aB]at X;have g:=Aa (show Aq w1.heap.size f (aA a nl c) bs from Az.other J.out n (by omega));have o:=Ar K n;have ak:=o.size;have z4:=(o.block w.heap.size (by omega) (by intro e;cases e;omega)).trans V;clear I J N G n u K l;by_cases Y:y=0
 ·subst Y;have O:=TY B p (r+1) f M (by omega) g.out.bin (by have:=t.out;omega) m.out.1;clear g m;go_wp2_with (go_at_call 104;refine O.mono ?_)
  rintro e P Q;have R:=Aa Q;obtain⟨a5,d,c5,al,am,rfl,an,Z,S,aa,ab,ac⟩:=Q;have z5:=(S.block w.heap.size (by omega) (by intro e;cases e;omega)).trans z4;have i:=Aa (R.out.ret (w:=w) (k:=k) (d':=800) (Ar z o) (by omega) x (by omega) #[aA a5 d c5]);clear O R Z S aa ab ac;go_wp2_with (with_reducible show wpList _ _ _ (bB _ (aZ _ (aR 2) _) _ _ _ _::_) _ _;refine wpList_store_row rfl 25 _ _ rfl w.heap.size #[aA a5 d c5] ?_ ?_ 25 _ z5 ?_ ?_ ?_ ?_)
  all_goals (first | rfl | kernel_rfl | exact AB | skip)
  have j:(P.setRow w.heap.size #[aA a5 d c5]).heap[w.heap.size]?=aI (aE #[aA a5 d c5] 25 (0,0)):=setRow_heap _ _ _ _ _ _ z5;have b:=Ab j 0;simp only[aC,aB]at b;generalize P.setRow w.heap.size #[aA a5 d c5]=W at i b j⊢;exact bodyPost_ret (v:=bD #[aA a5 d c5]) (by simp[results,results43,go_sem,b]) rfl i.out
 ·have ao:((y:Int)==0)=false:=by rw[beq_eq_false_iff_ne];omega
  have T:Eg 601 B p k w1 (aY (bD #[aA a nl c])) f:=⟨a,nl,c,bs,r+1,rfl,by omega,M,o,g.out.bin,⟨Fa (by have:=t.out;omega) m.out.1,by have:=t.out;omega⟩,fun q ad=>g.out.far ad⟩;have i:=Aa (T.ret (w:=w) (k:=k) (d':=800) z (by omega) x (by omega) #[aA a nl c]);clear g m T;go_wp2_with (with_reducible show wpList _ _ _ (bB _ (aZ _ (aR 2) _) _ _ _ _::_) _ _;refine wpList_store_row rfl 25 _ _ rfl w.heap.size #[aA a nl c] ?_ ?_ 25 _ z4 ?_ ?_ ?_ ?_)
  all_goals (first | rfl | kernel_rfl | exact AB | skip)
  have j:(f.setRow w.heap.size #[aA a nl c]).heap[w.heap.size]?=aI (aE #[aA a nl c] 25 (0,0)):=setRow_heap _ _ _ _ _ _ z4;have b:=Ab j 0;simp only[aC,aB]at b;generalize f.setRow w.heap.size #[aA a nl c]=W at i b j⊢;exact bodyPost_ret (v:=bD #[aA a nl c]) (by simp[results,results43,go_sem,b]) rfl i.out
