import Derived.Test.YtpdahhnjhggocaaGreatDoorMr16
open Go.Proofs.Tryz
open List renaming getElem?_cons_zero->aA,getElem?_toArray->aB,getElem?_cons_succ->aC,length_map->aG,length_nil->aK,length_cons->aP,perm_middle->aS,map_append->aU,mem_singleton->aV,length_eq_zero_iff->aW,mem_map->aX,mem_cons_of_mem->aY,mem_map_of_mem->bA,length_append->bC,mem_cons->bD,size_toArray->bH,mem_append->bJ,getElem_cons_zero->bK,length->bM,flatMap_append->bN,pairwise_cons->bP,mem_cons_self->bQ,flatMap_nil->bR,cons_append->bS,map_cons->bV,map_nil->bW
open Go.Value renaming slice->aD,string->aE,tuple->aO,agg->bB,string->bU,pointer->cA
open Option renaming none->aF,some->aJ
open Nat renaming le_refl->aH,zero_add->bF,le_trans->bI,le_add_right->bT,add_zero->bZ
open Go.Obj renaming cells->aI
open Array renaming getElem?_eq_some_iff->aL
open Go.World renaming size_alloc->aM,ownsRow_nil->bO
open Go.Ending renaming returned->aN
open Go.RowKit.Below renaming refl->aQ
open Go.Exit renaming noGoto_ret->aR
open Go renaming bodyPost_ret->aT,results->bG
open List.Perm renaming cons->aZ,swap->bE
open And renaming intro->bL
open Go.Lib renaming alloc_old->bX
open Go.World.ownsRow renaming lt->bY
namespace Go.Proofs.YtpdahhnjhggocaaGreatDoor
open Go.RowKit
set_option maxHeartbeats 16000000
set_option maxRecDepth 100000
variable {w W W4:World}{lv v:Value}{S X k:Nat}
def Tb(a:PRes)(w:World)(e:Ending)(w':World):Prop:=Below w.heap.size w w'/\match a with
 | .bad m c=>e=aN (aO #[bB #[aD aF 0 0],bB #[.int .i64 (m:Int),.int .i64 c]])
 | .good bs=>∃v' bs',e=aN (aO #[bB #[v'],bB #[.int .i64 0,.int .i64 0]])/\bs'.map BAt.I=AO bs/\Ax w.heap.size w' v' bs'
def Aga(a:Int)(x:List UInt8)(xs:List (List UInt8))(w:World)(e:Ending)(w':World):Prop:=Below w.heap.size w w'/\((a≠0/\e=aN (aO #[bB #[aE ⟨#[]⟩,aE ⟨#[]⟩,aD aF 0 0],.int .i64 a]))\/(a=0/\∃b,xs=[b]/\e=aN (aO #[bB #[aE (Az x),aE (Az b),aD aF 0 0],.int .i64 0])))
theorem Kp:∀(t acc:List UInt8),∀l∈AR acc t,l.length<=acc.length+t.length
 | [],acc,l,h=>by
  unfold AR at h;split at h
  ·cases h
  ·rw[aV.1 h];exact bT _ _
 | c::t,acc,l,h=>by
  unfold AR at h;split at h
  ·rcases bD.1 h with rfl|h
   ·exact bT _ _
   ·have:=Kp t [] l h;simp only[aP,aK]at this⊢;omega
  ·have:=Kp t (acc++[c]) l h;simp only[bC,aP,aK]at this⊢;omega
theorem PJ.start{c:World}{ls:List (List UInt8)}(a:Below (w.heap.size+4) ((((w.alloc (aI #[aD aF 0 0] 25)).alloc (aI #[.int .i64 0,.int .i64 0] 38)).alloc (aI #[aD aF 0 0] 25)).alloc (aI #[] 9)) c)(d:c.ownsRow (w.heap.size+4) 9 1 lv ls.length (strs ls)):PJ w (w.heap.size+2) c.heap.size lv ls 0 [] aF (c.alloc (aI #[aE ⟨#[]⟩,aE ⟨#[]⟩,aD aF 0 0] 46)):=by
 have i:=a.size;simp only[aM]at i;have b0:∀W0:World,∀o:Obj,∀q u,W0.heap[q]?=aJ u->(W0.alloc o).heap[q]?=aJ u:=fun W0 o q u e=>(((aQ W0.heap.size W0).alloc (aH _) o).block q (aL.1 e).1).trans e
 have a0:=Ai w (aI #[aD aF 0 0] 25);have a1:=Ai (w.alloc (aI #[aD aF 0 0] 25)) (aI #[.int .i64 0,.int .i64 0] 38);have a2:=Ai ((w.alloc (aI #[aD aF 0 0] 25)).alloc (aI #[.int .i64 0,.int .i64 0] 38)) (aI #[aD aF 0 0] 25);simp only[aM]at a1 a2;have j:Below w.heap.size w c:=((((((aQ w.heap.size w).alloc (aH _) _).alloc (by simp) _).alloc (by simp;omega) _).alloc (by simp;omega) _)).trans (a.mono (by omega));have f:∀q u,q<w.heap.size+4->((((w.alloc (aI #[aD aF 0 0] 25)).alloc (aI #[.int .i64 0,.int .i64 0] 38)).alloc (aI #[aD aF 0 0] 25)).alloc (aI #[] 9)).heap[q]?=aJ u->(c.alloc (aI #[aE ⟨#[]⟩,aE ⟨#[]⟩,aD aF 0 0] 46)).heap[q]?=aJ u:=fun q u e h=>b0 _ _ _ _ ((a.block q e).trans h)
 refine⟨j.alloc (by omega) _,f _ _ (by omega) (b0 _ _ _ _ (b0 _ _ _ _ (b0 _ _ _ _ a0))),f _ _ (by omega) (b0 _ _ _ _ (b0 _ _ _ _ a1)),(AF d).V ((aQ _ _).alloc (aH _) _),Bx.above d (by omega),Bx.of_lt (AF d) (by decide) (aH _),⟨aH _,by omega⟩,⟨aF,0,[],f _ _ (by omega) (b0 _ _ _ _ a2),?_,rfl,⟨.inl rfl,fun x g=>by cases g⟩,⟨.inl rfl,fun x g=>by cases g⟩,fun b a=>by cases a⟩,⟨⟨⟨#[]⟩,⟨#[]⟩,aD aF 0 0,[]⟩,aF,0,0,rfl,Ai _ _,fun o d=>by cases d⟩⟩;exact⟨AF (bO _ 0 46 3),fun b a=>by cases a⟩
def InQ(b:Int)(R:List Plain)(kind name:ByteArray)(v:Value)(d:List LAt)(x:PLine)(w:World)(e:Ending)(w':World):Prop:=Below w.heap.size w w'/\((b≠0/\e=aN (aO #[bB #[aE kind,aE name,v],.int .i64 b]))\/(b=0/\∃a n c ls',e=aN (aO #[bB #[aE kind,aE name,aD a n c],.int .i64 0])/\ls'.map LAt.I=Ca (lineLt R) x (d.map LAt.I)/\ls'.length=d.length+1/\Ap w' (aD a n c) ls'/\∀q,q<w.heap.size->Aw q v d->Aw q (aD a n c) ls'))
theorem PjO.grow{o:PBlock}{b:BAt}{a4:Option Addr}{e c4:Nat}{a:List LAt}{x:List UInt8}{xs:List (List UInt8)}(h:PjO S X k o b W)(ev:b.v=v)(D:k<=400)(p:S<W.heap.size)(r:X<W.heap.size)(E:xs.length<=7)(s:∀y∈x::xs,y.length<=200)(i:a.map LAt.I=Ca (lineLt (rulesOf b.aa)) ⟨Az x,xs⟩ (b.ls.map LAt.I))(F:a.length=b.ls.length+1)(t:Ap W4 (aD a4 e c4) a)(j:∀q,q<W.heap.size->Aw q v b.ls->Aw q (aD a4 e c4) a):PjO S X (k+1) ⟨o.aa,o.name,o.ac++[⟨Az x,xs⟩]⟩ ⟨b.aa,b.name,aD a4 e c4,a⟩ W4:=by
 obtain⟨l,u,w,G,m,n,z,H,A⟩:=h;rw[ev]at m n;refine⟨l,u,?_,t,j S p m,j X r n,⟨?_,fun y B=>?_⟩,?_,A⟩
 ·rw[Fr,<-w,<-l];exact i
 ·show a.length<=1048576;omega
 ·have c:y.I∈a.map LAt.I:=bA B;rw[i]at c;rcases bD.1 ((DD _ _ _).mem_iff.1 c) with c|c
  ·have f:y.ws=xs:=congrArg PLine.ws c;rw[f];exact⟨by omega,fun d g=>by have:=s d (aY _ g);omega⟩
  ·obtain⟨d,g,C⟩:=aX.1 c;have f:d.ws=y.ws:=congrArg PLine.ws C;rw[<-f];exact z.2 d g
 ·show a.length<=k+1;omega
theorem FG(s:ByteArray)(w:World)(d1:s.size<=4000000):Calls prog 23 #[aE s] w fun e w'=>Tb (AU s.data.toList) w e w':=by
 have al:=Ab (show AU s.data.toList=if 20000<s.size\/400<(textLines s.data.toList).length then .bad 0 11 else AQ 0 [] aF (textLines s.data.toList) from rfl);generalize c5:AU s.data.toList=u at *;clear c5;by_cases d2:s.size<=20000
 ·have c6:(s.size:Int)<=20000:=by omega
  have c7:¬(20000:Int)<(s.size:Int):=by omega
  go_enter func23,ntmps23;go_wp2_with (go_at_call 81;refine(Xw s _ (by omega)).mono ?_)
  rintro e am ⟨c8,c9,rfl,E,a0⟩;simp only[aM]at E a0;have a1:=Ab (PJ.start a0 E);have da:=a0.size;simp only[aM]at da;have z0:am.heap[w.heap.size]?=_:=(bX am _ _ (by omega)).symm.trans a1.out.r0;have d:am.heap[w.heap.size+1]?=_:=(bX am _ _ (by omega)).symm.trans a1.out.r1;have ce:Below w.heap.size w am:=((((((aQ w.heap.size w).alloc (aH _) _).alloc (by simp) _).alloc (by simp;omega) _).alloc (by simp;omega) _)).trans (a0.mono (by omega));have db:=Ab (show ∀l∈textLines s.data.toList,l.length<=1048576 from fun l dc=>by
   have cf:=Kp s.data.toList [] l dc;have dd:s.data.toList.length=s.size:=rfl;rw[dd]at cf;simp only[aK]at cf;omega)
  generalize de:textLines s.data.toList=ls at *;generalize cg:ls.length=n at *;have ch:=Ab cg;clear de cg E a0;by_cases df:400<n
  ·have dg:(400:Int)<(n:Int):=by omega
   have g:=Ab (show u=.bad 0 11 by have:=al.out;rw[if_pos (.inr df)]at this;exact this);clear a1 al;have ci:=Aa z0 0;have cj:=Aa d 0;have ck:=Aa d 1;have d3:=Ac z0 0;have d4:=Ac d 0;have d5:=Ac d 1;simp only[aB,aA,aC]at ci cj ck;go_wp2;exact aT (v:=aO #[bB #[aD aF 0 0],bB #[.int .i64 0,.int .i64 11]]) (by simp[bG,results23,go_sem,ci,cj,ck]) rfl (by rw[g.out];exact⟨Ad (Ad (Ad ce ⟨w.heap.size,0,aF⟩ (aH _) _) ⟨w.heap.size+1,0,aF⟩ (by simp only;omega) _) ⟨w.heap.size+1,1,aF⟩ (by simp only;omega) _,rfl⟩)
  ·have dg:¬(400:Int)<(n:Int):=by omega
   have g:Hid (u=AQ 0 [] aF (ls.drop 0)):=Ab (by have:=al.out;rw[if_neg (by omega)]at this;exact this);clear al z0 d ce;generalize d6:am.heap.size=X at *;go_wp2;go_loopw [6,8] (fun o i wr=>∃(k:Nat) (done:List PBlock) (op:Option PBlock),k<=n/\o=.bool op.isSome/\i=.int .i64 (k:Int)/\done.length<=k/\Hid (u=AQ k done op (ls.drop k))/\Hid (Hc done op)/\Hid (PJ w (w.heap.size+2) X (aD c8 n c9) ls k done op wr)) (fun _ i _=>n-(intOf i).toNat)
   case atStart=>exact⟨0,[],aF,by omega,rfl,rfl,by simp,g,Ab CX.nil,a1⟩
   case round =>
    clear g a1;obtain⟨k,done,op,d7,rfl,rfl,d8,a2,a3,B⟩:=hrel;have d9:=B.out.bw.size;have ea:=B.out.sx;have eb:X<wr.heap.size:=by obtain⟨b,a,n,c,_,h,_⟩:=B.out.bb;exact(aL.1 h).1
    by_cases dh:k<n
    ·have bl:k<ls.length:=by rw[ch.out];exact dh
     obtain⟨ec,ed,di,c0⟩:=B.out.row.word k bl;cases di
     have an:=Abw bl;have cl:=db.out ls[k] (List.getElem_mem bl);generalize ls[k]=l at *;have ao:=Ab (show u=AQ k done op (l::ls.drop (k+1)) by rw[<-an];exact a2.out);have ad:=NY ⟨l.toArray⟩ wr (show l.toArray.size<=1048576 by rw[bH];exact cl);have ee:(0:Int)<=(k:Int):=by omega
     have ef:(k:Int)<(n:Int):=by omega
     have C:=Ab (Sg l);have bw:=Ab (P7 l.length [] l (by simp));clear a2 an bl cl;rw[show (⟨l.toArray⟩:ByteArray).data.toList=l from rfl]at ad;cases ae:cutL l with
     | none =>
      rw[ae]at ad;have g:=Ab (show u=.bad (k+1) 1 by rw[ao.out];exact Adt ae);clear ae C bw ao;go_wp2_with (go_at_call 82;refine ad.mono ?_)
      rintro e w2 ⟨v,rfl,E,a5⟩;obtain⟨va,Q,rfl,_⟩:=Al E;have a6:=(aQ w2.heap.size w2).alloc (aH _) (aI #[aD va 0 Q,.bool true] 124);have j:=Ab ((B.out.V a5).V a6);have z0:=j.out.r0;have d:=j.out.r1;have ap:=Ai w2 (aI #[aD va 0 Q,.bool true] 124);have aq:=Aa ap 1;simp only[aB,aA,aC]at aq;have cm:=Aa z0 0;have cn:=Aa d 0;have co:=Aa d 1;have eg:=Ac z0 0;have eh:=Ac d 0;have ei:=Ac d 1;simp only[aB,aA,aC]at cm cn co;clear ad E z0 d ap;go_wp2;exact aT (v:=aO #[bB #[aD aF 0 0],bB #[.int .i64 ((k:Int)+1),.int .i64 1]]) (by simp[bG,results23,go_sem,cm,cn,co]) rfl (by rw[g.out];exact⟨Ad (Ad (Ad j.out.bw ⟨w.heap.size,0,aF⟩ (aH _) _) ⟨w.heap.size+1,0,aF⟩ (by simp only;omega) _) ⟨w.heap.size+1,1,aF⟩ (by simp only;omega) _,rfl⟩)
     | some ws =>
      rw[ae]at ad C;have bx:=Ab (show cutL l=aJ []->u=AQ (k+1) done op (ls.drop (k+1)) from fun e=>by rw[ao.out];exact Zt e);have bz:=Ab (show ∀x xs,cutL l=aJ (x::xs)->(Be done op x xs).1≠0->u=.bad (k+1) (Be done op x xs).1 from fun x xs e h=>by rw[ao.out];exact Zu e h);have b1:=Ab (show ∀x xs,cutL l=aJ (x::xs)->(Be done op x xs).1=0->u=AQ (k+1) (Be done op x xs).2.1 (Be done op x xs).2.2 (ls.drop (k+1)) from fun x xs e h=>by rw[ao.out];exact Abx e h);have a7:ws.length<=8:=by
       have:=bw.out;rw[show F2 l.length [] l=cutL l from rfl,ae]at this;simpa using this
      have F:=Ab ae;clear ae bw ao;go_wp2_with (go_at_call 82;refine ad.mono ?_)
      rintro e w2 ⟨v,rfl,E,a5⟩;simp only[Option.getD_some]at E C;obtain⟨va,Q,rfl,ar⟩:=Al E;have a6:=(aQ w2.heap.size w2).alloc (aH _) (aI #[aD va ws.length Q,.bool false] 124);have j:=Ab ((B.out.V a5).V a6);have ap:=Ai w2 (aI #[aD va ws.length Q,.bool false] 124);have V:=Aa ap 0;have aq:=Aa ap 1;simp only[aB,aA,aC]at V aq;have t:=Ab ((AF E).V a6);have ej:=a5.size;clear ad E ap a5 a6 B c0;simp only[Option.isNone_some]
      match ws,F,C,a7,ar,V,j,t with
      | [],F,C,a7,ar,V,j,t =>
       have g:=Ab (bx.out F.out);have m:=Ab j.out.skip;clear bx bz b1 j t C F;simp only[aK]at V;go_wp2;go_roundw;case rel=>exact⟨k+1,done,op,by omega,rfl,by go_num,by omega,g,a3,m⟩
       case measure=>simp[intOf];omega
      | x::xs,F,C,a7,ar,V,j,t =>
       have bm:xs.length<=7:=by simp only[aP]at a7;omega
       have O:=Ab (bz.out x xs F.out);have G:=Ab (b1.out x xs F.out);have H:=Ab (show (Be done op x xs).1=0->Hc (Be done op x xs).2.1 (Be done op x xs).2.2 from fun h=>a3.out.step h);clear bx bz b1 F a3;simp only[aP]at V aq t ar j;obtain⟨au,rfl⟩:∃au,va=aJ ⟨au,0,aF⟩:=by
        rcases ar with h|h
        ·omega
        ·exact h
       have cp:=t.out.word 0 (by simp);clear ar a7;cases op with
       | none =>
        obtain⟨sa,sc,bs,R,P,D,_,_,_⟩:=j.out.sb;have af:bs.length=done.length:=by have:=congrArg bM D;rw[aG,FF]at this;exact this
        have c0:=Aa R 0;simp only[aB,aA]at c0;have av:(Be (bs.map BAt.I) aF x xs).1=(Be done aF x xs).1:=by
         by_cases h1:xs.length=1
         ·match xs,h1 with
          | [ag],_=>rw[DE,DE,D,Hb]
         ·rw[FN h1,FN h1]
        have r:Calls prog 84 #[bB #[aD sa bs.length sc],aD (aJ ⟨au,0,aF⟩) (xs.length+1) Q] _ fun e w'=>Aga (Be done aF x xs).1 x xs _ e w':=(SZ P (by omega) t.out C.out bm).mono (fun e w' h=>by
         unfold JB at h;rw[av]at h;exact h)
        have dj:=C;generalize dk:bs.length=cq at *;clear R P D av cp dk af;by_cases p:(Be done aF x xs).1=0
        ·have g:=Ab (G.out p);have ah:=Ab (H.out p);have I:=Ab p;clear p;go_wp2_with (go_at_call 84;refine r.mono ?_)
         rintro e aw ⟨z,A⟩;obtain⟨_,ag,dl,rfl⟩:=A.resolve_left (fun h=>h.1 I.out);subst dl;have m:=Ab (j.out.V z);obtain⟨b0,a8,a9,ba,_,q,_⟩:=m.out.bb;have J:=Aa q 0;have K:=Aa q 1;have L:=Aa q 2;have bb:=Ac q 0;have bc:=Ac q 1;have bd:=Ac q 2;simp only[aB,aA,aC]at J K L;have dm:(Az ag).size<=1048576:=by
          have:=dj.out ag (by simp);show ag.toArray.size<=1048576
          rw[bH];omega
         have ai:=Ab (PJ.turn m.out (o:=⟨Az x,Az ag,[]⟩) (b:=⟨Az x,Az ag,aD aF 0 0,[]⟩) (a:=aF) (n:=0) (c:=0) rfl ⟨rfl,rfl,rfl,⟨AF (bO _ 0 115 2),fun y M=>by cases M⟩,⟨.inl rfl,fun y M=>by cases M⟩,⟨.inl rfl,fun y M=>by cases M⟩,⟨by simp,fun y M=>by cases M⟩,by simp,dm⟩);clear r q j t O G H;go_wp2;go_roundw;case rel=>exact⟨k+1,done,aJ ⟨Az x,Az ag,[]⟩,by omega,rfl,by go_num,by omega,g,ah,ai⟩
         case measure=>simp[intOf];omega
        ·have g:=Ab (O.out p);have I:=Ab p;generalize W:(Be done aF x xs).1=N at *;clear W;have cr:(N==0)=false:=by rw[beq_eq_false_iff_ne];exact p
         have cs:(N != 0)=true:=by rw[bne_iff_ne];exact p
         go_wp2_with (go_at_call 84;refine r.mono ?_)
         rintro e aw ⟨z,A⟩;have be:=A.resolve_right (fun h=>I.out h.1);obtain⟨_,rfl⟩:=be;have m:=Ab (j.out.V z);obtain⟨b0,a8,a9,ba,_,q,_⟩:=m.out.bb;have z0:=m.out.r0;have d:=m.out.r1;have J:=Aa q 0;have K:=Aa q 1;have L:=Aa q 2;have bb:=Ac q 0;have bc:=Ac q 1;have bd:=Ac q 2;simp only[aB,aA,aC]at J K L;have Y:=Aa z0 0;have Z:=Aa d 0;have aa:=Aa d 1;have ct:=Ac z0 0;have cu:=Ac d 0;have cv:=Ac d 1;simp only[aB,aA,aC]at Y Z aa;clear r q j t O G H z0 d;go_wp2;exact aT (v:=aO #[bB #[aD aF 0 0],bB #[.int .i64 ((k:Int)+1),.int .i64 N]]) (by simp[bG,results23,go_sem,Y,Z,aa]) rfl (by rw[g.out];exact⟨Ad (Ad (Ad (Ad (Ad (Ad (m.out.bw) ⟨X,0,aF⟩ (by simp only;omega) _) ⟨X,1,aF⟩ (by simp only;omega) _) ⟨X,2,aF⟩ (by simp only;omega) _) ⟨w.heap.size,0,aF⟩ (aH _) _) ⟨w.heap.size+1,0,aF⟩ (by simp only;omega) _) ⟨w.heap.size+1,1,aF⟩ (by simp only;omega) _,rfl⟩)
       | some o =>
        obtain⟨sa,sc,bs,R,P,D,b2,b3,ax⟩:=j.out.sb;obtain⟨b,cw,bn,cx,bf,q,aj⟩:=j.out.bb;obtain⟨bo,b4,bp,bg,b5,b6,bq,cy,b7⟩:=aj o rfl;have af:bs.length=done.length:=by have:=congrArg bM D;rw[aG,FF]at this;exact this
        have c0:=Aa R 0;have t0:=Aa q 0;have b8:=Aa q 1;have t2:=Aa q 2;simp only[aB,aA,aC]at c0 t0 b8 t2;obtain⟨ek,el,dn,k0⟩:=cp;cases dn
        simp only[bK,bZ]at k0;by_cases hend:x=[101,110,100]/\xs=[]
        ·obtain⟨rfl,rfl⟩:=hend;have g:=Ab (G.out rfl);have ah:=Ab (H.out rfl);simp only[aK,bF]at P bg c0 t0 b8 t2 k0 V aq j;have r:=BT P (by omega) bg;rw[bf]at r;have cz:b.I=Im o:=by
          show (⟨b.aa,b.name,b.ls.map LAt.I⟩:PBlock)=⟨o.aa,o.name,BG (rulesOf o.aa) o.ac⟩
          rw[bo,b4,bp]
         have dp:=Ab cz;have b9:=Ab D;have dq:=Ab ax;have br:=Ab (bL b5 (bL b6 (bL bq b7)));have c1:=Ab (bL b2 b3);have em:done.length+1<=k+1:=by omega
         generalize bs.length=cq at *;clear R P D b2 b3 ax q aj bo b4 bp bg b5 b6 bq cy b7 af cz O G H;go_wp2_with (go_at_call 54;refine r.mono ?_)
         rintro e aw ⟨a4,ay,c4,dr,rfl,⟨ab,ak,c2,S,T⟩,z⟩;obtain⟨_,_,ds⟩:=S.1.ad;cases ds
         have m:=Ab (j.out.V z);obtain⟨_,_,_,ca,_⟩:=m.out.sb;have dt:=Aa ca 0;have v0:=Ac ca 0;simp only[aB,aA]at dt;have en:=z.size;have ai:=Ab (PJ.put m.out (by rw[ab,dp.out,b9.out,Ky]) S (T _ (by simp;omega) c1.out.1 br.out.1) (T _ (by simp;omega) c1.out.2 br.out.2.1) (fun y M=>by
          rcases c2 y M with rfl|M
          ·exact⟨br.out.2.2.2,br.out.2.2.1⟩
          ·exact dq.out y M))
         clear r ab ak c2 S T ca;generalize dr.length=eo at *;go_wp2;go_roundw;case rel=>exact⟨k+1,done++[o],aF,by omega,rfl,by go_num,by simp;omega,g,ah,ai⟩
         case measure=>simp[intOf];omega
        ·have av:=Mc (done:=done) (b:=o) hend;have W:lineFault (rulesOf b.aa) (b.ls.map LAt.I) ⟨Az x,xs⟩=(Be done (aJ o) x xs).1:=by rw[av,bo,bp,MX]
         have r:Calls prog 83 #[bB #[aE b.aa,aE b.name,aD cw bn cx],aD (aJ ⟨au,0,aF⟩) (xs.length+1) Q] (w2.alloc (aI #[aD (aJ ⟨au,0,aF⟩) (xs.length+1) Q,.bool false] 124)) fun e w'=>InQ (Be done (aJ o) x xs).1 (rulesOf b.aa) b.aa b.name (aD cw bn cx) b.ls ⟨Az x,xs⟩ (w2.alloc (aI #[aD (aJ ⟨au,0,aF⟩) (xs.length+1) Q,.bool false] 124)) e w':=by
          have h:=Qr (x:=x) (xs:=xs) bg bq t.out C.out bm;rw[bf]at h;refine h.mono (fun e w' h=>?_);unfold MW at h;rw[W,bf]at h;exact h
         have U:=Ab (aj o rfl);have az:=Ab bf;have ac:=Ab av;clear R P D b2 b3 ax q aj bo b4 bp bg b5 b6 bq cy b7 af av W bf;by_cases bt:xs.length=0
         ·have ep:(x==[101,110,100])=false:=by
           rw[beq_eq_false_iff_ne];exact fun e=>hend ⟨e,aW.1 bt⟩
          obtain rfl:=aW.1 bt;clear bt hend;simp only[aK,bF]at c0 t0 b8 t2 k0 V aq j r U t;by_cases p:(Be done (aJ o) x []).1=0
          ·have g:=Ab (show u=AQ (k+1) done (aJ ⟨o.aa,o.name,o.ac++[⟨Az x,[]⟩]⟩) (ls.drop (k+1)) by have:=G.out p;rw[ac.out]at this;exact this);have ah:=Ab (show Hc done (aJ ⟨o.aa,o.name,o.ac++[⟨Az x,[]⟩]⟩) by have:=H.out p;rw[ac.out]at this;exact this);have I:=Ab p;clear p O G H;go_wp2_with (go_at_call 83;refine r.mono ?_)
           rintro e aw ⟨z,A⟩;obtain⟨_,a4,ay,c4,cb,rfl,ab,ak,S,T⟩:=A.resolve_left (fun h=>h.1 I.out);have m:=Ab (j.out.V z);obtain⟨b0,a8,a9,ba,_,f,_⟩:=m.out.bb;have J:=Aa f 0;have K:=Aa f 1;have L:=Aa f 2;have bb:=Ac f 0;have bc:=Ac f 1;have bd:=Ac f 2;simp only[aB,aA,aC]at J K L;have ai:=Ab (PJ.turn m.out (o:=⟨o.aa,o.name,o.ac++[⟨Az x,[]⟩]⟩) (b:=⟨b.aa,b.name,aD a4 ay c4,cb⟩) (a:=a4) (n:=ay) (c:=c4) rfl (U.out.grow az.out (by omega) (by rw[aM];omega) (by rw[aM];omega) bm C.out ab ak S T));clear r f j t ab ak S T U az ac A;go_wp2;go_roundw;case rel=>exact⟨k+1,done,aJ ⟨o.aa,o.name,o.ac++[⟨Az x,[]⟩]⟩,by omega,rfl,by go_num,by omega,g,ah,ai⟩
           case measure=>simp[intOf];omega
          ·have g:=Ab (O.out p);have I:=Ab p;clear O G H ac;generalize W:(Be done (aJ o) x []).1=N at *;clear W;have cr:(N==0)=false:=by rw[beq_eq_false_iff_ne];exact p
           have cs:(N != 0)=true:=by rw[bne_iff_ne];exact p
           go_wp2_with (go_at_call 83;refine r.mono ?_)
           rintro e aw ⟨z,A⟩;have be:=A.resolve_right (fun h=>I.out h.1);obtain⟨_,rfl⟩:=be;have m:=Ab (j.out.V z);obtain⟨b0,a8,a9,ba,_,f,_⟩:=m.out.bb;have z0:=m.out.r0;have d:=m.out.r1;have J:=Aa f 0;have K:=Aa f 1;have L:=Aa f 2;have bb:=Ac f 0;have bc:=Ac f 1;have bd:=Ac f 2;simp only[aB,aA,aC]at J K L;have Y:=Aa z0 0;have Z:=Aa d 0;have aa:=Aa d 1;have ct:=Ac z0 0;have cu:=Ac d 0;have cv:=Ac d 1;simp only[aB,aA,aC]at Y Z aa;clear r f j t z0 d U az;go_wp2;exact aT (v:=aO #[bB #[aD aF 0 0],bB #[.int .i64 ((k:Int)+1),.int .i64 N]]) (by simp[bG,results23,go_sem,Y,Z,aa]) rfl (by rw[g.out];exact⟨Ad (Ad (Ad (Ad (Ad (Ad (m.out.bw) ⟨X,0,aF⟩ (by simp only;omega) _) ⟨X,1,aF⟩ (by simp only;omega) _) ⟨X,2,aF⟩ (by simp only;omega) _) ⟨w.heap.size,0,aF⟩ (aH _) _) ⟨w.heap.size+1,0,aF⟩ (by simp only;omega) _) ⟨w.heap.size+1,1,aF⟩ (by simp only;omega) _,rfl⟩)
         ·have eq:(((xs.length:Int)+1)==1)=false:=by rw[beq_eq_false_iff_ne];omega
          clear bt hend;by_cases p:(Be done (aJ o) x xs).1=0
          ·have g:=Ab (show u=AQ (k+1) done (aJ ⟨o.aa,o.name,o.ac++[⟨Az x,xs⟩]⟩) (ls.drop (k+1)) by have:=G.out p;rw[ac.out]at this;exact this);have ah:=Ab (show Hc done (aJ ⟨o.aa,o.name,o.ac++[⟨Az x,xs⟩]⟩) by have:=H.out p;rw[ac.out]at this;exact this);have I:=Ab p;clear p O G H;go_wp2_with (go_at_call 83;refine r.mono ?_)
           rintro e aw ⟨z,A⟩;obtain⟨_,a4,ay,c4,cb,rfl,ab,ak,S,T⟩:=A.resolve_left (fun h=>h.1 I.out);have m:=Ab (j.out.V z);obtain⟨b0,a8,a9,ba,_,f,_⟩:=m.out.bb;have J:=Aa f 0;have K:=Aa f 1;have L:=Aa f 2;have bb:=Ac f 0;have bc:=Ac f 1;have bd:=Ac f 2;simp only[aB,aA,aC]at J K L;have ai:=Ab (PJ.turn m.out (o:=⟨o.aa,o.name,o.ac++[⟨Az x,xs⟩]⟩) (b:=⟨b.aa,b.name,aD a4 ay c4,cb⟩) (a:=a4) (n:=ay) (c:=c4) rfl (U.out.grow az.out (by omega) (by rw[aM];omega) (by rw[aM];omega) bm C.out ab ak S T));clear r f j t ab ak S T U az ac A;go_wp2;go_roundw;case rel=>exact⟨k+1,done,aJ ⟨o.aa,o.name,o.ac++[⟨Az x,xs⟩]⟩,by omega,rfl,by go_num,by omega,g,ah,ai⟩
           case measure=>simp[intOf];omega
          ·have g:=Ab (O.out p);have I:=Ab p;clear O G H ac;generalize W:(Be done (aJ o) x xs).1=N at *;clear W;have cr:(N==0)=false:=by rw[beq_eq_false_iff_ne];exact p
           have cs:(N != 0)=true:=by rw[bne_iff_ne];exact p
           go_wp2_with (go_at_call 83;refine r.mono ?_)
           rintro e aw ⟨z,A⟩;have be:=A.resolve_right (fun h=>I.out h.1);obtain⟨_,rfl⟩:=be;have m:=Ab (j.out.V z);obtain⟨b0,a8,a9,ba,_,f,_⟩:=m.out.bb;have z0:=m.out.r0;have d:=m.out.r1;have J:=Aa f 0;have K:=Aa f 1;have L:=Aa f 2;have bb:=Ac f 0;have bc:=Ac f 1;have bd:=Ac f 2;simp only[aB,aA,aC]at J K L;have Y:=Aa z0 0;have Z:=Aa d 0;have aa:=Aa d 1;have ct:=Ac z0 0;have cu:=Ac d 0;have cv:=Ac d 1;simp only[aB,aA,aC]at Y Z aa;clear r f j t z0 d U az;go_wp2;exact aT (v:=aO #[bB #[aD aF 0 0],bB #[.int .i64 ((k:Int)+1),.int .i64 N]]) (by simp[bG,results23,go_sem,Y,Z,aa]) rfl (by rw[g.out];exact⟨Ad (Ad (Ad (Ad (Ad (Ad (m.out.bw) ⟨X,0,aF⟩ (by simp only;omega) _) ⟨X,1,aF⟩ (by simp only;omega) _) ⟨X,2,aF⟩ (by simp only;omega) _) ⟨w.heap.size,0,aF⟩ (aH _) _) ⟨w.heap.size+1,0,aF⟩ (by simp only;omega) _) ⟨w.heap.size+1,1,aF⟩ (by simp only;omega) _,rfl⟩)
    ·obtain rfl:k=n:=by omega
     have an:ls.drop k=[]:=List.drop_of_length_le (by rw[ch.out];exact aH _);have bh:=a2.out;rw[an]at bh;cases op with
     | none =>
      have g:=Ab (show u=.good done from bh);obtain⟨sa,sc,bs,R,P,D,_,_,ax⟩:=B.out.sb;have af:bs.length<=1048576:=by have:=congrArg bM D;rw[aG,FF]at this;omega
      have c0:=Aa R 0;simp only[aB,aA]at c0;have F:=Di P ⟨af,ax⟩;have b9:=Ab D;generalize bs.length=cq at *;clear a2 bh a3 R P ax af D an;go_wp2_with (go_at_call 55;refine F.mono ?_)
      rintro e du ⟨v',bs',rfl,c3,cc,dv⟩;obtain⟨bu,bv,dw,_⟩:=Al cc.row;subst dw;have cd:=Ab (B.out.V dv);have z0:=cd.out.r0;have d:=cd.out.r1;have bi:=Aa z0 0;have bj:=Aa d 0;have bk:=Aa d 1;have dx:=Ac z0 0;have dy:=Ac d 0;have dz:=Ac d 1;simp only[aB,aA,aC]at bi bj bk;have aj:=((((cc.setCell ⟨w.heap.size,0,aF⟩ (by simp only;omega) (aD bu bs'.length bv)).setCell ⟨w.heap.size+1,0,aF⟩ (by simp only;omega) (.int .i64 0)).setCell ⟨w.heap.size+1,1,aF⟩ (by simp only;omega) (.int .i64 0))).mono (show w.heap.size<=wr.heap.size by omega);have U:=Ab (show Tb u w (aN (aO #[bB #[aD bu bs'.length bv],bB #[.int .i64 0,.int .i64 0]])) (((du.setCell ⟨w.heap.size,0,aF⟩ (aD bu bs'.length bv)).setCell ⟨w.heap.size+1,0,aF⟩ (.int .i64 0)).setCell ⟨w.heap.size+1,1,aF⟩ (.int .i64 0)) from by
       rw[g.out];exact⟨Ad (Ad (Ad cd.out.bw ⟨w.heap.size,0,aF⟩ (aH _) _) ⟨w.heap.size+1,0,aF⟩ (by simp only;omega) _) ⟨w.heap.size+1,1,aF⟩ (by simp only;omega) _,_,bs',rfl,c3.trans b9.out,aj⟩)
      clear F c3 cc aj z0 d;generalize bs'.length=d0 at *;go_wp2;exact aT (v:=aO #[bB #[aD bu d0 bv],bB #[.int .i64 0,.int .i64 0]]) (by simp[bG,results23,go_sem,bi,bj,bk]) rfl U.out
     | some o =>
      have g:=Ab (show u=.bad (k+1) 8 from bh);have z0:=B.out.r0;have d:=B.out.r1;have bi:=Aa z0 0;have bj:=Aa d 0;have bk:=Aa d 1;have dx:=Ac z0 0;have dy:=Ac d 0;have dz:=Ac d 1;simp only[aB,aA,aC]at bi bj bk;clear a2 bh a3 an z0 d;go_wp2;exact aT (v:=aO #[bB #[aD aF 0 0],bB #[.int .i64 ((k:Int)+1),.int .i64 8]]) (by simp[bG,results23,go_sem,bi,bj,bk]) rfl (by rw[g.out];exact⟨Ad (Ad (Ad B.out.bw ⟨w.heap.size,0,aF⟩ (aH _) _) ⟨w.heap.size+1,0,aF⟩ (by simp only;omega) _) ⟨w.heap.size+1,1,aF⟩ (by simp only;omega) _,rfl⟩)
 ·have c6:¬(s.size:Int)<=20000:=by omega
  have c7:(20000:Int)<(s.size:Int):=by omega
  have g:=Ab (show u=.bad 0 11 by have:=al.out;rw[if_pos (.inl (by omega))]at this;exact this);clear al;go_enter func23,ntmps23;go_wp2;exact aT (v:=aO #[bB #[aD aF 0 0],bB #[.int .i64 0,.int .i64 11]]) (by simp[bG,results23,go_sem]) rfl (by rw[g.out];exact⟨((((aQ w.heap.size w).alloc (aH _) _).alloc (by simp) _).alloc (by simp;omega) _).alloc (by simp;omega) _,rfl⟩)
variable {B m N wc g:Nat}{W':World}
structure Dk where
 g:Nat
 wc:Nat
 x:List UInt8
 xs:List (List UInt8)
def Dk.ta(y:Dk):Option Addr:=if y.wc=1 then aJ ⟨y.g,0,aF⟩ else aJ ⟨y.g,1,aF⟩
def Dk.l(y:Dk):LAt:=⟨Az y.x,aD y.ta y.xs.length (y.wc-1),y.xs⟩
def Dk.r(y:Dk):MRow:=⟨aD (aJ ⟨y.g,0,aF⟩) (y.xs.length+1) y.wc,9,1,y.xs.length+1,strs (y.x::y.xs)⟩
def Dk.sm(y:Dk):Prop:=y.xs.length<=7/\∀a∈y.x::y.xs,a.length<=200
structure DF where
 aa:ByteArray
 name:ByteArray
 v:Value
 ys:List Dk
def DF.b(b:DF):BAt:=⟨b.aa,b.name,b.v,b.ys.map Dk.l⟩
def BU(ys:List Dk):List PLine:=(ys.map Dk.l).map LAt.I
def BH(a:List DF):List PBlock:=(a.map DF.b).map BAt.I
def Du(v:Value)(ys:List Dk):List MRow:=⟨v,115,2,ys.length,(ys.map Dk.l).flatMap LAt.cells⟩::ys.map Dk.r
def C9(v:Value)(a:List DF):List MRow:=⟨v,46,3,a.length,(a.map DF.b).flatMap BAt.cells⟩::a.flatMap (fun b=>Du b.v b.ys)
def Qy(Y:Nat)(k n:ByteArray)(v:Value):MRow:=⟨aD (aJ ⟨Y,0,aF⟩) 1 1,46,3,1,[aE k,aE n,v]⟩
def Zz(v:Value)(L:List AL):List MRow:=⟨v,54,4,L.length,L.flatMap AL.cells⟩::L.flatMap AL.rows
theorem Qz{y:Dk}(h:y.r.isAt B W):BL W y.l:=MV (x:=y.x) (g:=y.g) rfl (AF h)
theorem Z1{ys:List Dk}(h:Ay B W (Du v ys)):Ap W v (ys.map Dk.l):=by
 refine⟨?_,fun x a=>?_⟩
 ·have:=AF (Ay.head h);rw[aG];exact this
 ·obtain⟨y,b,rfl⟩:=aX.1 a;exact Qz (h.1 y.r (aY _ (bA b)))
theorem Ez{a:List DF}(h:Ay B W (C9 v a)){b:DF}(d:b∈a):Ay B W (Du b.v b.ys):=by
 obtain⟨A,C,e⟩:=Gs (fun b:DF=>Du b.v b.ys) d;have c:=Ay.tail h;rw[e]at c;exact Ay.left (Ay.right c)
theorem JD{a:List DF}(h:Ay B W (C9 v a)):Au W v (a.map DF.b):=by
 refine⟨?_,fun x c=>?_⟩
 ·have:=AF (Ay.head h);rw[aG];exact this
 ·obtain⟨b,d,rfl⟩:=aX.1 c;exact Z1 (Ez h d)
def DF.sm(b:DF):Prop:=b.name.size<=200/\b.ys.length<=1000000/\∀y∈b.ys,y.sm
def Ep(R:Nat)(W:World):Nat:=match W.cell? ⟨R,0,aF⟩ with
 | some (aE s)=>(textLines s.data.toList).length
 | _=>0
theorem Cy.ac{R:Nat}{rest:ByteArray}(h:Cy R rest m W):Ep R W=(textLines rest.data.toList).length:=by
 have c0:=Aa h 0;simp only[aB,aA]at c0;unfold Ep;rw[c0]
structure OS(R:Nat)(w:World)(N:Nat)(L:List MRow)(rest:ByteArray)(m:Nat)(W:World):Prop where
 mem:Ay w.heap.size W L
 box:Cy R rest m W
 gr:w.grownBy W (aJ R)
 lt:R<w.heap.size
 sz:rest.size<=1048576
 n:m+(textLines rest.data.toList).length=N
 big:N<=1000000
theorem OS.V{R:Nat}{L:List MRow}{rest:ByteArray}(h:OS R w N L rest m W)(a:Below W.heap.size W W'):OS R w N L rest m W' :=
 ⟨h.mem.V a,h.box.V a,Ah h.gr (Ar a _),h.lt,h.sz,h.n,h.big⟩
theorem OS.read{R:Nat}{L:List MRow}{rest r:ByteArray}{m':Nat}{x:List UInt8}{xs rs:List (List UInt8)}(h:OS R w N L rest m W)(d:Ds m (textLines rest.data.toList)=.words m' x xs rs)(b:W.grownBy W' (aJ R))(f:textLines r.data.toList=rs)(i:r.size<=1048576)(j:Cy R r m' W')(c:W'.ownsRow W.heap.size 9 1 (aD (aJ ⟨g,0,aF⟩) (xs.length+1) wc) (xs.length+1) (strs (x::xs))):OS R w N ((⟨g,wc,x,xs⟩:Dk).r::L) r m' W':=by
 have k:=H9 _ _ _ _ _ _ d;have l:=h.gr.size;refine⟨?_,j,Ah h.gr b,h.lt,i,by rw[f,k.2];exact h.n,h.big⟩;have h1:=Ay.other h.mem b h.lt;refine⟨fun r' a=>?_,bP.2 ⟨fun s n=>?_,h1.2⟩⟩
 ·rcases bD.1 a with rfl|a
  ·exact C3 c l
  ·exact h1.1 r' a
 ·right;intro e;have o:=(bY c g rfl).1;have p:=(Ay.lt h.mem n (g:=g) (by rw[<-e];rfl)).2;omega
variable {Y n c:Nat}{xs:List Value}{kind name:ByteArray}{vr bv bv':Value}{L:List AL}{W3 W1 W2:World}
theorem Tk{k n:ByteArray}(h:W.heap[Y]?=aJ (aI #[aE k,aE n,v] 46 (0,0)))(a:B<=Y):(Qy Y k n v).isAt B W:=⟨rfl,.inr ⟨Y,1,#[aE k,aE n,v],rfl,a,h,aH _,by decide,rfl,rfl⟩⟩
theorem Tl{k n:ByteArray}(h:(Qy Y k n v).isAt B W):W.heap[Y]?=aJ (aI #[aE k,aE n,v] 46 (0,0)):=by
 have c:W.ownsRow B 46 3 (aD (aJ ⟨Y,0,aF⟩) 1 1) 1 [aE k,aE n,v]:=h;obtain⟨_,h|⟨g,j,a,e,_,d,_,_,f,b⟩⟩:=c
 ·cases h.1
 ·cases e
  have i:a.toList=[aE k,aE n,v]:=by
   have l:a.toList.length=3:=by simpa using f
   rw[List.take_of_length_le (by omega)]at b;exact b
  have:a=#[aE k,aE n,v]:=by
   apply Array.toList_inj.1;rw[i]
  rw[d,this]
theorem Nd{b:List DF}(h:Ay B W (C9 v b)):∃a c,v=aD a b.length c:=by
 have h1:W.ownsRow B 46 3 v b.length ((b.map DF.b).flatMap BAt.cells):=Ay.head h;obtain⟨a,c,e,_⟩:=Al h1;exact⟨a,c,e⟩
theorem IS{ys:List Dk}(h:Ay B W (Du v ys)):∃a c,v=aD a ys.length c:=by
 have h1:W.ownsRow B 115 2 v ys.length ((ys.map Dk.l).flatMap LAt.cells):=Ay.head h;obtain⟨a,c,e,_⟩:=Al h1;exact⟨a,c,e⟩
theorem Tm{a:Option Addr}(h:W.ownsRow B 9 1 (aD a (n+1) c) (n+1) xs):∃g,a=aJ ⟨g,0,aF⟩:=by
 obtain⟨a',d,e,b⟩:=Al h;cases e
 rcases b with b|b
 ·omega
 ·exact b
theorem OS.rows{R:Nat}{L a:List MRow}{rest:ByteArray}(h:OS R w N L rest m W)(b:Ay w.heap.size W a):OS R w N a rest m W:=⟨b,h.box,h.gr,h.lt,h.sz,h.n,h.big⟩
theorem Ay.consNone{L:List MRow}{r:MRow}(h:Ay B W L)(b:r.isAt B W)(c:r.v.ownBlock=aF):Ay B W (r::L):=⟨fun s a=>by
 rcases bD.1 a with rfl|a
 ·exact b
 ·exact h.1 s a,bP.2 ⟨fun s _=>.inl c,h.2⟩⟩
def Ee(Y:Nat)(kind name:ByteArray)(lv vr bv:Value)(ys:List Dk)(L:List AL)(a:List DF):List MRow:=Qy Y kind name lv::(Zz vr L++(Du lv ys++C9 bv a))
theorem Vh{a:List DF}{b:World}(h:Ay B W3 (C9 bv a))(c:B<=W3.heap.size)(d:Below W3.heap.size W3 W4)(e:W4.heap[Y]?=aJ (aI #[aE kind,aE name,aD aF 0 0] 46 (0,0)))(f:W3.heap.size<=Y)(g:Bh W4.heap.size b vr L)(i:Below W4.heap.size W4 b):Ay B b (Ee Y kind name (aD aF 0 0) vr bv [] L a):=by
 have h1:Ay B W3 (Du (aD aF 0 0) []++C9 bv a):=Ay.consNone h (Lp rfl rfl) rfl;have j:Ay B W4 (Qy Y kind name (aD aF 0 0)::(Du (aD aF 0 0) []++C9 bv a)):=Ay.cons h1 (Tk e f) d c;have k:=Ay.join j g i (bI c d.size);exact Ay.perm k (aS)
theorem DZ{ys:List Dk}{a:List DF}(h:Ay B W (Ee Y kind name lv vr bv ys L a)):W.heap[Y]?=aJ (aI #[aE kind,aE name,lv] 46 (0,0)):=Tl (h.1 _ (bQ ..))
theorem Nf{ys:List Dk}{a:List DF}(h:Ay B W (Ee Y kind name lv vr bv ys L a)):Bh B W vr L:=Ay.left (Ay.tail h)
theorem Fg{ys:List Dk}{a:List DF}(h:Ay B W (Ee Y kind name lv vr bv ys L a)):Ay B W (Du lv ys):=Ay.left (Ay.right (Ay.tail h))
theorem X7{ys:List Dk}{a:List DF}(h:Ay B W (Ee Y kind name lv vr bv ys L a)):Ay B W (C9 bv a):=Ay.right (Ay.right (Ay.tail h))
theorem Z2{lv':Value}{ys:List Dk}{y:Dk}{b:List DF}(h:Ay B W (y.r::Ee Y kind name lv vr bv ys L b))(e:Below W.heap.size W W1)(f:W2.ownsRow B 115 2 lv' (ys.length+1) (((ys.map Dk.l)++[y.l]).flatMap LAt.cells))(i:W1.grownBy W2 lv.ownBlock)(j:lv'.ownBlock=lv.ownBlock\/lv'.ownBlock=aJ W1.heap.size):Ay B (W2.setCell ⟨Y,2,aF⟩ lv') (Ee Y kind name lv' vr bv (ys++[y]) L b)/\(W2.heap[Y]?=aJ (aI #[aE kind,aE name,lv] 46 (0,0))):=by
 have h1:=Ay.V h e;have k:(y.r::Ee Y kind name lv vr bv ys L b).Perm (⟨lv,115,2,ys.length,(ys.map Dk.l).flatMap LAt.cells⟩::(Qy Y kind name lv::(Zz vr L++(ys.map Dk.r++[y.r]++C9 bv b)))):=by
  unfold Ee Du;simp only[bS];refine List.Perm.trans ?_ (bE _ _ _);refine(bE _ _ _).trans (aZ _ ?_);refine(aZ _ aS).trans ?_;refine(bE _ _ _).trans (aZ _ ?_);rw[List.append_assoc];exact(aS (a:=y.r) (l₁:=Zz vr L)).symm.trans (List.Perm.append_left _ (aS (a:=y.r) (l₁:=ys.map Dk.r)).symm)
 have l:=Ay.perm h1 k;have c:=Ay.grow (r':=⟨lv',115,2,ys.length+1,((ys.map Dk.l)++[y.l]).flatMap LAt.cells⟩) l f i j;have d:=Tl (c.1 (Qy Y kind name lv) (by simp));refine⟨?_,d⟩;have m:=(Ay.lt c (r:=Qy Y kind name lv) (by simp) (g:=Y) rfl).1;have n:=AN W2 Y 2 lv';have o:(W2.setCell ⟨Y,2,aF⟩ lv').heap[Y]?=aJ (aI #[aE kind,aE name,lv'] 46 (0,0)):=by rw[heap_setCell_same W2 Y 2 _ _ _ d];rfl
 have p:=Ay.midTurn (A:=[⟨lv',115,2,ys.length+1,((ys.map Dk.l)++[y.l]).flatMap LAt.cells⟩]) (r:=Qy Y kind name lv) (r':=Qy Y kind name lv') c rfl (Tk o m) n;refine Ay.perm p ?_;unfold Ee Du;simp only[bS,List.nil_append,aU,bV,bW,bC,aP,aK];refine(bE _ _ _).trans (aZ _ ?_);rw[bF];exact aS.symm
theorem X8{ys:List Dk}{b:List DF}(h:Ay B W (Ee Y kind name lv vr bv ys L b))(c:W2.ownsRow B 46 3 bv' (b.length+1) (((b.map DF.b)++[(⟨kind,name,lv,ys⟩:DF).b]).flatMap BAt.cells))(d:W.grownBy W2 bv.ownBlock)(e:bv'.ownBlock=bv.ownBlock\/bv'.ownBlock=aJ W.heap.size):Ay B W2 (C9 bv' (b++[⟨kind,name,lv,ys⟩])):=by
 have h1:Ay B W (Du lv ys++C9 bv b):=Ay.right (Ay.tail h);unfold C9 at h1;have f:=Ay.perm h1 (aS (a:=(⟨bv,46,3,b.length,(b.map DF.b).flatMap BAt.cells⟩:MRow)));have g:=Ay.grow (r':=⟨bv',46,3,b.length+1,((b.map DF.b)++[(⟨kind,name,lv,ys⟩:DF).b]).flatMap BAt.cells⟩) f c d e;refine Ay.perm g ?_;unfold C9;simp only[aU,bV,bW,bC,aP,aK,bN,List.flatMap_cons,bR,List.append_nil];exact aZ _ List.perm_append_comm
theorem FW{R:Nat}{o:Option Nat}(h:w.grownBy W (aJ R))(a:W.grownBy W' o)(c:∀g,o=aJ g->w.heap.size<=g):w.grownBy W' (aJ R):=⟨a.os.trans h.os,a.tape.trans h.tape,a.output.trans h.output,bI h.size a.size,fun i b d=>by
 rw[a.block i (Nat.lt_of_lt_of_le b h.size) (fun e=>by have:=c i e.symm;omega)];exact h.block i b d⟩
theorem Cy.other{R:Nat}{rest:ByteArray}{o:Option Nat}(h:Cy R rest m W)(a:W.grownBy W' o)(b:o≠aJ R):Cy R rest m W':=(a.block R (aL.1 h).1 (fun e=>b e.symm)).trans h
theorem Vi{R:Nat}{L:List MRow}{rest:ByteArray}(h:OS R w N L rest m W){r:MRow}(a:r∈L):∀g,r.v.ownBlock=aJ g->w.heap.size<=g:=fun _ b=>(Ay.lt h.mem a b).1
theorem OS.Yge{R:Nat}{ys:List Dk}{a:List DF}{rest:ByteArray}(h:OS R w N (Ee Y kind name lv vr bv ys L a) rest m W):w.heap.size<=Y:=Vi h (bQ ..) Y rfl
theorem OS.added{R:Nat}{lv':Value}{ys:List Dk}{y:Dk}{c:List DF}{rest:ByteArray}(h:OS R w N (y.r::Ee Y kind name lv vr bv ys L c) rest m W)(a:Below W.heap.size W W1)(i:W2.ownsRow w.heap.size 115 2 lv' (ys.length+1) (((ys.map Dk.l)++[y.l]).flatMap LAt.cells))(b:W1.grownBy W2 lv.ownBlock)(j:lv'.ownBlock=lv.ownBlock\/lv'.ownBlock=aJ W1.heap.size):OS R w N (Ee Y kind name lv' vr bv (ys++[y]) L c) rest m (W2.setCell ⟨Y,2,aF⟩ lv')/\W2.heap[Y]?=aJ (aI #[aE kind,aE name,lv] 46 (0,0)):=by
 obtain⟨h1,k⟩:=Z2 h.mem a i b j;have l:=(h.rows (Ay.tail h.mem)).Yge;have o:=h.lt;have d:∀g,lv.ownBlock=aJ g->w.heap.size<=g:=Vi h (r:=⟨lv,115,2,ys.length,(ys.map Dk.l).flatMap LAt.cells⟩) (by unfold Ee Du;simp);have f:=AN W2 Y 2 lv';have n:Cy R rest m W2:=(h.box.V a).other b (fun e=>by have:=d R e;omega);exact⟨⟨h1,n.other f (fun e=>by have:=Option.some.inj e;omega),FW (FW (Ah h.gr (Ar a _)) b d) f (fun g e=>by cases e;exact l),h.lt,h.sz,h.n,h.big⟩,k⟩
theorem OS.shut{R:Nat}{ys:List Dk}{a:List DF}{rest:ByteArray}(h:OS R w N (Ee Y kind name lv vr bv ys L a) rest m W)(d:W2.ownsRow w.heap.size 46 3 bv' (a.length+1) (((a.map DF.b)++[(⟨kind,name,lv,ys⟩:DF).b]).flatMap BAt.cells))(b:W.grownBy W2 bv.ownBlock)(f:bv'.ownBlock=bv.ownBlock\/bv'.ownBlock=aJ W.heap.size):OS R w N (C9 bv' (a++[⟨kind,name,lv,ys⟩])) rest m W2:=by
 have i:=h.lt;have c:∀g,bv.ownBlock=aJ g->w.heap.size<=g:=Vi h (r:=⟨bv,46,3,a.length,(a.map DF.b).flatMap BAt.cells⟩) (by unfold Ee C9;simp);exact⟨X8 h.mem d b f,h.box.other b (fun e=>by have:=c R e;omega),FW h.gr b c,h.lt,h.sz,h.n,h.big⟩
theorem KJ(ys:List Dk)(y:Dk):BU (ys++[y])=BU ys++[⟨Az y.x,y.xs⟩]:=by
 unfold BU;rw[aU,aU];rfl
theorem Hm(a:List DF)(b:DF):BH (a++[b])=BH a++[⟨b.aa,b.name,BU b.ys⟩]:=by
 unfold BH;rw[aU,aU];rfl
def Dl(R:Nat)(f:PRes)(w:World)(e:Ending)(w':World):Prop:=w.grownBy w' (aJ R)/\match f with
 | .good bs=>∃a n c d,e=aN (aO #[aD a n c,.nilIface])/\BH d=bs/\Ay w.heap.size w' (C9 (aD a n c) d)/\(∀b∈d,b.sm)/\d.length<=1000000
 | .bad m c=>e=aN (aO #[aD aF 0 0,Ja m c])
def Adx(R:Nat)(w:World)(N:Nat)(c:PRes)(v:Value)(W:World):Prop:=∃a rest m,OS R w N (C9 v a) rest m W/\AQ m (BH a) aF (textLines rest.data.toList)=c/\a.length<=m/\∀b∈a,b.sm
def InR(R:Nat)(w:World)(N:Nat)(b:PRes)(Y c:Nat)(kind name:ByteArray)(bv vr:Value)(a:List DF)(L:List AL)(W:World):Prop:=∃ys lv rest m,OS R w N (Ee Y kind name lv vr bv ys L a) rest m W/\AQ m (BH a) (aJ ⟨kind,name,BU ys⟩) (textLines rest.data.toList)=b/\(c<=m/\ys.length<=m)/\∀y∈ys,y.sm
theorem Vj{R:Nat}{rest:ByteArray}(h:Cy R rest 0 w)(b2:rest.size<=1048576)(dn:(textLines rest.data.toList).length<=1000000)(b3:∀W,w.grownBy W (aJ R)->BZ W):Calls prog 140 #[cA (aJ ⟨R,0,aF⟩)] w fun e w'=>Dl R (AQ 0 [] aF (textLines rest.data.toList)) w e w':=by
 have cx:R<w.heap.size:=(aL.1 h).1;obtain⟨o,i⟩:∃o,AQ 0 [] aF (textLines rest.data.toList)=o:=⟨_,rfl⟩;obtain⟨N,dp⟩:∃N,(textLines rest.data.toList).length=N:=⟨_,rfl⟩;have M:=Ab (show Adx R w N o (aD aF 0 0) w from⟨[],rest,0,⟨⟨by simp only[C9,bR,aV];rintro r rfl;exact Lp rfl rfl,by simp[C9]⟩,h,Ar (aQ w.heap.size w) _,cx,b2,by omega,by omega⟩,i,by simp,by simp⟩);rw[i];have b4:=Ab b3;clear h b2 i b3;go_enter func140,ntmps140;go_wp2;go_step3
 go_wp2;go_step3
 go_wp2;go_loopw [4] (fun v wr=>Adx R w N o v wr) (fun _ wr=>Ep R wr)
 case atStart=>exact M.out
 case round =>
  clear M;obtain⟨d,rs,m,z,k,dq,bh⟩:=hrel;obtain⟨va,aa,rfl⟩:=Nd z.mem;have az:=OO z.box z.sz (by rw[z.n];exact z.big);have j:=Ab z;rw[Gw]at k;clear z;go_wp2_with (go_at_call 186;refine az.mono ?_)
  rintro e w2 ⟨ag,E⟩;clear az;cases ah:Ds m (textLines rs.data.toList) with
  | ended O =>
   rw[ah]at E k;obtain⟨rfl,cy⟩:=E;have P:=j.out.gr;have b5:=Ay.other j.out.mem ag j.out.lt;have F:=Ab (show Dl R o w (aN (aO #[aD va d.length aa,.nilIface])) w2 from⟨Ah j.out.gr ag,by rw[<-k];exact⟨va,d.length,aa,d,rfl,rfl,b5,bh,by have:=j.out.big;have:=j.out.n;omega⟩⟩);clear j b5 k ag cy P;generalize d.length=G at *;go_wp2;rw[aR];go_ret2
   exact F.out
  | bad O =>
   rw[ah]at E k;obtain rfl:=E;have F:=Ab (show Dl R o w (aN (aO #[aD aF 0 0,Ja O 1])) w2 from⟨Ah j.out.gr ag,by rw[<-k];rfl⟩);clear j k ag;unfold Ja at *;generalize d.length=G at *;go_wp2;rw[aR];go_ret2
   exact F.out
  | words O x xs cz =>
   rw[ah]at E k;obtain⟨a,c,r,rfl,bi,P,ab,bj⟩:=E;obtain⟨g,rfl⟩:=Tm bj;have a9:=Hi _ _ _ _ _ _ ah;have dr:=H9 _ _ _ _ _ _ ah;have a0:=j.out.read ah ag bi P ab bj;have ds:d.length<=1000000:=by have:=j.out.n;have:=j.out.big;omega
   have dt:=j.out.n;have c0:=Ab j.out.box.ac;have b6:=Xr a0.box (JD (Ay.tail a0.mem)) (by rw[aG];omega) (AF (Ay.head a0.mem)) a9.2 a9.1;have ba:=Ab a0;have bb:=Ab (show (if (Be (BH d) aF x xs).1≠0 then PRes.bad O (Be (BH d) aF x xs).1 else AQ O (Be (BH d) aF x xs).2.1 (Be (BH d) aF x xs).2.2 cz)=o from k);have c1:=Ab bh;have aw:=Ab a9;have b7:=Ab bi;clear j k ag bj ab a0 ah bh a9 bi;have du:((xs.length:Int)+1==0)=false:=by rw[beq_eq_false_iff_ne];omega
   generalize bk:xs.length=b8 at *;generalize b9:d.length=G at *;have bl:=Ab b9;have ca:=Ab bk;clear b9 bk;go_wp2_with (go_at_call 187;refine b6.mono ?_)
   rintro e w3 ⟨bc,cb⟩;rw[show (d.map DF.b).map BAt.I=BH d from rfl]at cb;clear b6;rcases cb with ⟨t,rfl⟩|⟨t,ai,c2,rfl⟩
   ·have i:=bb.out;rw[if_pos t]at i;generalize (Be (BH d) aF x xs).1=a1 at *;have aj:=(aQ w3.heap.size w3).alloc (aH _) (aI #[aE ⟨#[]⟩,aE ⟨#[]⟩,aD aF 0 0] 46);have F:=Ab (show Dl R o w (aN (aO #[aD aF 0 0,Ja O a1])) (w3.alloc (aI #[aE ⟨#[]⟩,aE ⟨#[]⟩,aD aF 0 0] 46)) from⟨Ah ba.out.gr (Ah (Ar bc _) (Ar aj _)),by rw[<-i]⟩);clear bb ba i t bc aj;unfold Ja at *;go_wp2;rw[aR];go_ret2
    exact F.out
   ·subst c2;have i:=bb.out;rw[if_neg (by rw[t];simp),DE]at i;have cc:=ca.out;obtain rfl:b8=1:=by rw[<-cc];rfl
    have cd:=ba.out.V bc;have aj:=(aQ w3.heap.size w3).alloc (aH _) (aI #[aE (Az x),aE (Az ai),aD aF 0 0] 46);have bm:=Ai w3 (aI #[aE (Az x),aE (Az ai),aD aF 0 0] 46);have ce:=CU (Az x) (w3.alloc (aI #[aE (Az x),aE (Az ai),aD aF 0 0] 46));have cf:=Ab i;have bd:=Ab cd;have c6:=Ab (show (Az ai).size<=200 from by have:=aw.out.2 ai (by simp);show ai.toArray.size<=200;rw[bH];exact this);clear bb ba i t cc ca cd bc aw;generalize c7:Az x=kx at *;generalize c8:Az ai=p at *;clear c7 c8;have k0:=Aa bm 0;simp only[aB,aA]at k0;go_wp2_with (go_at_call 29;refine ce.mono ?_)
    rintro e c9 ⟨vr,L,rfl,cg,bn,bo⟩;obtain⟨Q,S,rfl,_⟩:∃Q S,vr=aD Q L.length S/\True:=by
     obtain⟨Q,S,e,_⟩:=Al (Ay.head bn);exact⟨Q,S,e,trivial⟩
    generalize dv:L.length=nl at *;have da:w.heap.size<=w3.heap.size:=bd.out.gr.size;have ch:=Vh (Ay.tail bd.out.mem) da aj bm (aH _) bn bo;have M:=Ab (show InR R w N o w3.heap.size O kx p (aD va G aa) (aD Q nl S) d L c9 from⟨[],aD aF 0 0,r,O,(bd.out.V (aj.trans (bo.mono aj.size))).rows ch,by rw[b7.out];exact cf.out,⟨aH _,by simp⟩,by simp⟩);have be:=Ab cg;clear ce bn cg ch bo aj bm k0 bd cf b7;generalize dw:w3.heap.size=Y at *;obtain⟨bp,db⟩:∃bp,bp=wr:=⟨_,rfl⟩;subst db;go_wp2;go_loopw [4] (fun v bq=>v=aD va G aa/\InR R w N o Y O kx p (aD va G aa) (aD Q nl S) d L bq) (fun _ bq=>Ep R bq)
    case atStart=>exact⟨rfl,M.out⟩
    case round =>
     clear M;obtain⟨rfl,ys,lv,dc,dd,z,k,⟨dx,dy⟩,ac⟩:=hrel;obtain⟨C,D,rfl⟩:=IS (Fg z.mem);have az:=OO z.box z.sz (by rw[z.n];exact z.big);have j:=Ab z;rw[Gw]at k;clear z;go_wp2_with (go_at_call 186;refine az.mono ?_)
     rintro e I ⟨ak,E⟩;clear az;cases al:Ds dd (textLines dc.data.toList) with
     | ended q =>
      rw[al]at E k;obtain⟨rfl,ci⟩:=E;have br:=Ay.other j.out.mem ak j.out.lt;have J:=Aa (DZ br) 2;have dz:=Ac (DZ br) 2;simp only[aB,aA,aC]at J;have ad:=Zo (vr:=aD Q nl S) (ev:=aD C ys.length D) ci;have a2:=j.out.Yge;have F:=Ab (show Dl R o w (aN (aO #[aD aF 0 0,Ja q 8])) (I.setCell ⟨Y,2,aF⟩ (aD aF 0 0)) from⟨FW (Ah j.out.gr ak) (AN I Y 2 _) (fun g e=>by cases e;exact a2),by rw[<-k];rfl⟩);clear j k ak ci br;unfold Ja at *;generalize ys.length=H at *;go_wp2_with (go_at_call 188;refine ad.mono ?_;rintro e V ⟨rfl,rfl⟩)
      rw[aR];go_ret2
      exact F.out
     | bad q =>
      rw[al]at E k;obtain rfl:=E;have F:=Ab (show Dl R o w (aN (aO #[aD aF 0 0,Ja q 1])) I from⟨Ah j.out.gr ak,by rw[<-k];rfl⟩);clear j k ak;unfold Ja at *;generalize ys.length=H at *;go_wp2;rw[aR];go_ret2
      exact F.out
     | words q l s bf =>
      rw[al]at E k;obtain⟨a5,c5,bs,rfl,bt,de,cj,bu⟩:=E;obtain⟨K,rfl⟩:=Tm bu;have ae:=Hi _ _ _ _ _ _ al;have d0:=H9 _ _ _ _ _ _ al;have f:=j.out.read al ak bt de cj bu;have d1:=j.out.n;have ck:=Ab j.out.box.ac;have ax:=Ab bt;obtain⟨d2,d3,df,dg⟩:=(AF (Ay.head f.mem)).word 0 (by simp);cases df
      simp only[bK,bZ]at dg;clear j ak bu cj al bt;by_cases hend:l=[101,110,100]/\s=[]
      ·obtain⟨rfl,rfl⟩:=hend;have am:AQ q (BH d++[⟨kx,p,BU ys⟩]) aF bf=o:=by
        have h1:(if (Be (BH d) (aJ ⟨kx,p,BU ys⟩) [101,110,100] []).1≠0 then PRes.bad q (Be (BH d) (aJ ⟨kx,p,BU ys⟩) [101,110,100] []).1 else AQ q (Be (BH d) (aJ ⟨kx,p,BU ys⟩) [101,110,100] []).2.1 (Be (BH d) (aJ ⟨kx,p,BU ys⟩) [101,110,100] []).2.2 bf)=o:=k;rw[Wz]at h1;simpa using h1
       have bv:=f.rows (Ay.tail f.mem);have bg:=DZ bv.mem;have cl:=Aa bg 0;have cm:=Aa bg 1;have J:=Aa bg 2;simp only[aB,aA,aC]at cl cm J;obtain⟨i0,dh,di,dj,dk⟩:=info_parts Cj;have cn:=(aQ I.heap.size I).alloc (aH _) (aI #[aE kx,aE p,aD C ys.length D] 46);have ay:=bv.V cn;have co:(I.alloc (aI #[aE kx,aE p,aD C ys.length D] 46)).ownsRow w.heap.size 46 3 (aD va G aa) G ((d.map DF.b).flatMap BAt.cells):=by
        have:=Ay.head (X7 ay.mem);rw[bl.out]at this;exact this
       have cp:=Bn I #[aE kx,aE p,aD C ys.length D] 46 3 rfl;have cq:∀y∈[bU kx,bU p,Value.slice C ys.length D],y.oneCell'=true:=by
        intro y n;simp only[bD,List.not_mem_nil,or_false]at n;rcases n with rfl|rfl|rfl <;> rfl
       have dl:w.heap.size<=(I.alloc (aI #[aE kx,aE p,aD C ys.length D] 46)).heap.size:=ay.gr.size;have d4:G<=q:=by omega
       have cr:=Ab ay;have a3:=Ab (show (⟨kx,p,aD C ys.length D,ys⟩:DF).sm from⟨c6.out,by have:=ay.n;have:=ay.big;simp only;omega,ac⟩);have T:=Ab am;clear f bv ay am k ac bg cn;generalize an:ys.length=H at *;clear an;simp only[aK,bF]at *;go_wp2_with (at_builtin;refine AD (by rfl) _ _ 23 (by rfl) w.heap.size 46 i0 _ 3 56 underlying23 dh di dj dk rfl (by decide) _ G _ (by rfl) co _ 1 _ (by rfl) cp cq ?c3 ?c4 dl ?_)
       case c3=>unfold maxLen;omega
       case c4=>omega
       intro cs ct cu cv cw bw;have bx:=cr.out.shut (bv':=aD cs (G+1) ct) (by rw[bl.out,bN,List.flatMap_singleton];exact cv) cw (by first|exact bw|(rw[aM];exact bw));have af:Ep R cu<Ep R bp:=by rw[bx.box.ac,c0.out,ax.out];omega
       have M:=Ab (show Adx R w N o (aD cs (G+1) ct) cu from⟨d++[⟨kx,p,aD C H D,ys⟩],bs,q,bx,by rw[Hm,ax.out];exact T.out,by rw[bC,bl.out];simp only[aP,aK];omega,fun b ab=>by
        rcases bJ.1 ab with ab|ab
        ·exact c1.out b ab
        ·rw[aV.1 ab];exact a3.out⟩)
       have a4:=Ab af;clear co cp cq cv cw bw bx af cr cl cm J;go_wp2;go_roundw;case rel=>exact M.out
       case measure=>exact a4.out
      ·have am:(if lineFault (rulesOf kx) (BU ys) ⟨Az l,s⟩≠0 then PRes.bad q (lineFault (rulesOf kx) (BU ys) ⟨Az l,s⟩) else AQ q (BH d) (aJ ⟨kx,p,BU ys++[⟨Az l,s⟩]⟩) bf)=o:=by
        have h1:(if (Be (BH d) (aJ ⟨kx,p,BU ys⟩) l s).1≠0 then PRes.bad q (Be (BH d) (aJ ⟨kx,p,BU ys⟩) l s).1 else AQ q (Be (BH d) (aJ ⟨kx,p,BU ys⟩) l s).2.1 (Be (BH d) (aJ ⟨kx,p,BU ys⟩) l s).2.2 bf)=o:=k;rw[Mc hend]at h1;exact h1
       clear k;by_cases bz:s.length=0
       ·have dm:(l==[101,110,100])=false:=by
         rw[beq_eq_false_iff_ne];intro e;exact hend ⟨e,aW.1 bz⟩
        obtain rfl:=aW.1 bz;clear bz hend;have ad:Calls prog 188 #[cA (aJ ⟨R,0,aF⟩),aD Q nl S,aD C ys.length D,aD (aJ ⟨K,0,aF⟩) (([]:List (List UInt8)).length+1) c5] I fun e w'=>GA (rulesOf kx) w.heap.size (aD C ys.length D) (ys.map Dk.l) q l ([]:List (List UInt8)) (Dk.ta ⟨K,c5,l,([]:List (List UInt8))⟩) c5 I e w':=by
         have:=Wa (R:=R) (B:=w.heap.size) (m:=q) (g:=K) (wc:=c5) (x:=l) (xs:=([]:List (List UInt8))) (ta:=Dk.ta ⟨K,c5,l,([]:List (List UInt8))⟩) (es:=ys.map Dk.l) (ea:=C) (ec:=D) f.box (Nf (Ay.tail f.mem)) (by rw[be.out];exact Bm _) (by rw[aG];exact Ay.head (Fg (Ay.tail f.mem))) f.gr.size (fun b0 P=>by obtain⟨y,n,rfl⟩:=aX.1 P;exact Qz ((Fg (Ay.tail f.mem)).1 y.r (aY _ (bA n)))) (by rw[aG];have:=f.n;have:=f.big;omega) (fun b0 P=>by obtain⟨y,n,rfl⟩:=aX.1 P;exact bI (ac y n).1 (by decide)) (AF (Ay.head f.mem)) ae.2 ae.1 rfl (b4.out _ f.gr);rw[be.out,aG]at this;exact this
        have J:=Aa (DZ (Ay.tail f.mem)) 2;simp only[aB,aA,aC]at J;have u:=Ab f;have a3:=Ab ac;have aw:=Ab (show (⟨K,c5,l,([]:List (List UInt8))⟩:Dk).sm from ae);have T:=Ab am;clear f ac ae am;generalize an:ys.length=H at *;simp only[aK,bF]at ad⊢;have U:=Ab an;clear an;go_wp2_with (go_at_call 188;refine ad.mono ?_)
        rintro e V ao;clear ad;unfold GA at ao;rw[show (ys.map Dk.l).map LAt.I=BU ys from rfl]at ao;rcases ao with ⟨t,rfl,ap⟩|⟨t,X,Z,rfl,aq,W1,a6,a7,ar⟩
        ·have i:=T.out;have A:=(ap.block Y (aL.1 (DZ (Ay.tail u.out.mem))).1).trans (DZ (Ay.tail u.out.mem));have au:=Aa A 2;have b1:=Ac A 2;simp only[aB,aA,aC]at au;rw[if_pos t]at i;have a2:=(u.out.rows (Ay.tail u.out.mem)).Yge;generalize lineFault (rulesOf kx) (BU ys) ⟨Az l,([]:List (List UInt8))⟩=a1 at *;have F:=Ab (show Dl R o w (aN (aO #[aD aF 0 0,Ja q a1])) (V.setCell ⟨Y,2,aF⟩ (aD aF 0 0)) from⟨FW (Ah u.out.gr (Ar ap _)) (AN V Y 2 _) (fun g e=>by cases e;exact a2),by rw[<-i]⟩);clear T u i t ap A J;unfold Ja at *;go_wp2;rw[aR];go_ret2
         exact F.out
        ·have i:=T.out;rw[if_neg (by rw[t];simp)]at i;rw[aG,U.out]at aq;obtain⟨av,A⟩:=u.out.added (lv':=aD X (H+1) Z) a6 (by rw[U.out];exact aq) a7 (by rw[aG,U.out]at ar;exact ar);have au:=Aa A 2;have b1:=Ac A 2;simp only[aB,aA,aC]at au;have a8:=av.box.ac;have M:=Ab (show InR R w N o Y O kx p (aD va G aa) (aD Q nl S) d L (V.setCell ⟨Y,2,aF⟩ (aD X (H+1) Z)) from⟨ys++[⟨K,c5,l,([]:List (List UInt8))⟩],aD X (H+1) Z,bs,q,av,by rw[ax.out];rw[KJ];exact i,⟨by omega,by simp;have:=U.out;omega⟩,fun y n=>by
          rcases bJ.1 n with n|n
          ·exact a3.out y n
          ·rw[aV.1 n];exact aw.out⟩)
         have af:Ep R (V.setCell ⟨Y,2,aF⟩ (aD X (H+1) Z))<Ep R wr:=by rw[a8,ck.out,ax.out];omega
         have a4:=Ab af;clear T u i t av A aq a7 ar a6 J a8 af;rw[aG,U.out];go_wp2;go_roundw;case rel=>exact⟨rfl,M.out⟩
         case measure=>exact a4.out
       ·have dm:(((s.length:Int)+1)==1)=false:=by rw[beq_eq_false_iff_ne];omega
        have ad:Calls prog 188 #[cA (aJ ⟨R,0,aF⟩),aD Q nl S,aD C ys.length D,aD (aJ ⟨K,0,aF⟩) (s.length+1) c5] I fun e w'=>GA (rulesOf kx) w.heap.size (aD C ys.length D) (ys.map Dk.l) q l s (Dk.ta ⟨K,c5,l,s⟩) c5 I e w':=by
         have:=Wa (R:=R) (B:=w.heap.size) (m:=q) (g:=K) (wc:=c5) (x:=l) (xs:=s) (ta:=Dk.ta ⟨K,c5,l,s⟩) (es:=ys.map Dk.l) (ea:=C) (ec:=D) f.box (Nf (Ay.tail f.mem)) (by rw[be.out];exact Bm _) (by rw[aG];exact Ay.head (Fg (Ay.tail f.mem))) f.gr.size (fun b0 P=>by obtain⟨y,n,rfl⟩:=aX.1 P;exact Qz ((Fg (Ay.tail f.mem)).1 y.r (aY _ (bA n)))) (by rw[aG];have:=f.n;have:=f.big;omega) (fun b0 P=>by obtain⟨y,n,rfl⟩:=aX.1 P;exact bI (ac y n).1 (by decide)) (AF (Ay.head f.mem)) ae.2 ae.1 rfl (b4.out _ f.gr);rw[be.out,aG]at this;exact this
        have J:=Aa (DZ (Ay.tail f.mem)) 2;simp only[aB,aA,aC]at J;have u:=Ab f;have a3:=Ab ac;have aw:=Ab (show (⟨K,c5,l,s⟩:Dk).sm from ae);have T:=Ab am;clear f ac ae am;generalize an:ys.length=H at *;generalize bk:s.length=b8 at *;have U:=Ab an;clear an;go_wp2_with (go_at_call 188;refine ad.mono ?_)
        rintro e V ao;clear ad;unfold GA at ao;rw[show (ys.map Dk.l).map LAt.I=BU ys from rfl]at ao;rcases ao with ⟨t,rfl,ap⟩|⟨t,X,Z,rfl,aq,W1,a6,a7,ar⟩
        ·have i:=T.out;have A:=(ap.block Y (aL.1 (DZ (Ay.tail u.out.mem))).1).trans (DZ (Ay.tail u.out.mem));have au:=Aa A 2;have b1:=Ac A 2;simp only[aB,aA,aC]at au;rw[if_pos t]at i;have a2:=(u.out.rows (Ay.tail u.out.mem)).Yge;generalize lineFault (rulesOf kx) (BU ys) ⟨Az l,s⟩=a1 at *;have F:=Ab (show Dl R o w (aN (aO #[aD aF 0 0,Ja q a1])) (V.setCell ⟨Y,2,aF⟩ (aD aF 0 0)) from⟨FW (Ah u.out.gr (Ar ap _)) (AN V Y 2 _) (fun g e=>by cases e;exact a2),by rw[<-i]⟩);clear T u i t ap A J;unfold Ja at *;go_wp2;rw[aR];go_ret2
         exact F.out
        ·have i:=T.out;rw[if_neg (by rw[t];simp)]at i;rw[aG,U.out]at aq;obtain⟨av,A⟩:=u.out.added (lv':=aD X (H+1) Z) a6 (by rw[U.out];exact aq) a7 (by rw[aG,U.out]at ar;exact ar);have au:=Aa A 2;have b1:=Ac A 2;simp only[aB,aA,aC]at au;have a8:=av.box.ac;have M:=Ab (show InR R w N o Y O kx p (aD va G aa) (aD Q nl S) d L (V.setCell ⟨Y,2,aF⟩ (aD X (H+1) Z)) from⟨ys++[⟨K,c5,l,s⟩],aD X (H+1) Z,bs,q,av,by rw[ax.out];rw[KJ];exact i,⟨by omega,by simp;have:=U.out;omega⟩,fun y n=>by
          rcases bJ.1 n with n|n
          ·exact a3.out y n
          ·rw[aV.1 n];exact aw.out⟩)
         have af:Ep R (V.setCell ⟨Y,2,aF⟩ (aD X (H+1) Z))<Ep R wr:=by rw[a8,ck.out,ax.out];omega
         have a4:=Ab af;clear T u i t av A aq a7 ar a6 J a8 af;rw[aG,U.out];go_wp2;go_roundw;case rel=>exact⟨rfl,M.out⟩
         case measure=>exact a4.out
