import Derived.Test.YtpdahhnjhggocaaGreatDoorMr12
open Go.Proofs.Tryz
open Go.Value renaming slice->aA,pointer->aD,agg->bI,string->cO
open Option renaming some->aB,none->aC
open Go renaming execOp->aE,setRow_other->bB,setRow_size->bE,wpList_store_row->bG,setRow_heap->bJ,resolve->bS,bodyPost_ret->cD,Ending->cE,wpList->cL,info_parts->cM,heap_setCell_other->cN,heap_setCell_same->cP
open List renaming getElem?_cons_zero->aF,getElem?_cons_succ->aI,mem_singleton->aK,getElem?_toArray->aL,mem_cons->aS,mem_map_of_mem->aT,map_toArray->aV,map_cons->aW,not_mem_nil->aY,map_nil->aZ,mem_append->bC,mem_map->bH,length_append->bK,length_cons->bM,mem_cons_of_mem->bO,length->bQ,setIfInBounds_toArray->bT,set_cons_zero->bZ,set_cons_succ->cA,mem_cons_self->cB,flatMap_cons->cG,cons_append->cH,nil_append->cI
open Array renaming getElem?_eq_some_iff->aG
open Go.Act renaming eval->aH
open Go.Oper renaming wp->aJ,mk->bX
open Go.World renaming block_lt_of_cell?->aM,grownBy_alloc->bA,ownsRow_lit->bY,size_alloc->cF
open Nat renaming le_refl->aN,le_trans->aP,lt_of_lt_of_le->aQ,add_zero->bP,zero_le->bR
open Go.Obj renaming cells->aO
open Go.RowKit.Below renaming refl->aR
open Go.NoPanic renaming normal->aU
open Go.Ending renaming returned->aX
open Option.some renaming inj->bD
open Go.World.ownsRow renaming kept->bF
open Go.Code renaming region->bL
open Go.Operand renaming tmp->bN
open Go.Op renaming store->bU
open Go.ByteArray renaming toList_eq->bV
open Go.Lib renaming decDigits->bW,cell_of_heap->cJ
open Bool renaming false_eq_true->cC
open Exists renaming intro->cK
open UInt8 renaming ofNat->cQ
namespace Go.Proofs.YtpdahhnjhggocaaGreatDoor
open Go.RowKit
set_option maxHeartbeats 16000000
set_option maxRecDepth 100000
variable {p B kk kk' k:Nat}{W W' w1 w:World}{v':Value}{ls':List LAt}
structure Agn(B p:Nat)(w:World)(n:Nat)(T:List (Nat × List ByteArray))(W:World):Prop where
 rd:Rd B W p n
 gr:w.grownBy W (aB p)
 plt:p<w.heap.size
 tabs:∀x∈T,W.heap[x.1]?=aB (aO (x.2.map cO).toArray 9 (0,0))/\p<x.1
def El(b:BAt):Prop:=b.aa.size<=20/\∀x∈b.ls,x.key.size<=20
theorem Vy{k:ByteArray}(h:1<=(rulesOf k).length):k.size<=20:=by
 have e:k.size=k.toList.length:=by rw[bV];simp
 rw[e];unfold rulesOf at h;split at h
 ·rename_i h1;rw[h1];decide
 ·split at h
  ·rename_i h1;rw[h1];decide
  ·split at h
   ·rename_i h1;rw[h1];decide
   ·simp at h
theorem XK{k:ByteArray}{z:Plain}(h:z∈rulesOf k):z.1.size<=20:=by
 unfold rulesOf at h;split at h
 ·exact(show ∀z∈teamRules,z.1.size<=20 by decide) z h
 ·split at h
  ·exact(show ∀z∈berthRules,z.1.size<=20 by decide) z h
  ·split at h
   ·exact(show ∀z∈serviceRules,z.1.size<=20 by decide) z h
   ·cases h
def ZQ(B p k:Nat)(w:World)(e:cE)(w':World):Prop:=∃(b:BAt) (k':Nat),e=aX (bI #[.string b.aa,.string b.name,b.v])/\k'<=k+100/\Rd B w' p k'/\w.grownBy w' (aB p)/\(Ap w' b.v b.ls/\∀q,q<w.heap.size->Aw q b.v b.ls)/\b.name.size<=4/\b.ls.length<=7/\(∀x∈b.ls,x.ws.length<=3/\∀y∈x.ws,y.length<=200)/\El b
def Agd(B p k:Nat)(w1:World)(q:Value)(a:World):Prop:=∃(R:Nat) (kind name:ByteArray),q=aD (aB ⟨R,0,aC⟩)/\a.heap[R]?=aB (aO #[.string kind,.string name,aA aC 0 0] 46 (0,0))/\(1<=(rulesOf kind).length/\name.size<=4/\w1.heap.size<=R)/\Rd B a p (k+2)/\w1.grownBy a (aB p)
def IT:List ByteArray:=[⟨#[116,101,97,109]⟩,⟨#[98,101,114,116,104]⟩,⟨#[115,101,114,118,105,99,101]⟩,⟨#[115,101,114,118,105,99,101]⟩]
def IU:List ByteArray:=[⟨#[97]⟩,⟨#[98]⟩,⟨#[119,101,98]⟩,⟨#[100,98,45,49]⟩]
theorem Afc(u:ByteArray)(h:u∈IT):1<=(rulesOf u).length:=by
 unfold IT at h;simp only[aS,aY,or_false]at h;rcases h with rfl|rfl|rfl|rfl <;> simp[rulesOf,bV,teamRules,berthRules,serviceRules]
theorem Afd(u:ByteArray)(h:u∈IU):u.size<=4:=by
 unfold IU at h;simp only[aS,aY,or_false]at h;rcases h with rfl|rfl|rfl|rfl <;> decide
def Hp(p:Nat)(W:World)(t:Nat)(l:List ByteArray):Prop:=W.heap[t]?=aB (aO (l.map cO).toArray 9 (0,0))/\p<t
def BY(p:Nat)(W W':World):Prop:=∀t o,p<t->W.heap[t]?=aB o->W'.heap[t]?=aB o
theorem BY.grown(h:W.grownBy W' (aB p)):BY p W W':=fun t o b a=>by
 rw[h.block t (aG.1 a).1 (by intro e;cases e;omega)];exact a
theorem BY.alloc(p:Nat)(W:World)(o:Obj):BY p W (W.alloc o):=fun t b _ a=>by rw[Cs _ _ _ (aG.1 a).1];exact a
theorem BY.refl(p:Nat)(W:World):BY p W W:=fun _ _ _ h=>h
theorem Hp.af{t:Nat}{l:List ByteArray}(h:Hp p W t l)(k:BY p W W'):Hp p W' t l:=⟨k t _ h.2 h.1,h.2⟩
theorem Hp.cell{t:Nat}{l:List ByteArray}(h:Hp p W t l){y:Nat}(a:y<l.length):∃u∈l,W.cell? ⟨t,y,aC⟩=aB (.string u):=by
 refine⟨l[y],List.getElem_mem _,?_⟩;rw[Aa h.1 y];simp[a]
def Afe:Obj:=aO #[.string ⟨#[]⟩,.string ⟨#[]⟩,aA aC 0 0] 46 (0,0)
def RN(p:Nat)(w1:World)(i:Nat)(x:Value)(W:World):Prop:=match i with
 | 0=>∃t,x=aA (aB ⟨t,0,aC⟩) 4 4/\Hp p W t IT
 | 1=>x=aD (aB ⟨p,0,aC⟩)
 | 2=>∃y:Nat,y<4/\x=.int .i64 (y:Int)
 | 3=>∃t y:Nat,y<4/\x=aD (aB ⟨t,y,aC⟩)/\Hp p W t IT
 | 4=>∃u∈IT,x=.string u
 | 5=>∃t,x=aA (aB ⟨t,0,aC⟩) 4 4/\Hp p W t IU
 | 6=>x=aD (aB ⟨p,0,aC⟩)
 | 7=>∃y:Nat,y<4/\x=.int .i64 (y:Int)
 | 8=>∃t y:Nat,y<4/\x=aD (aB ⟨t,y,aC⟩)/\Hp p W t IU
 | 9=>∃u∈IU,x=.string u
 | 10=>∃u∈IT,∃v∈IU,x=bI #[.string u,.string v,aA aC 0 0]
 | 11=>∃R,x=aD (aB ⟨R,0,aC⟩)/\W.heap[R]?=aB Afe/\w1.heap.size<=R/\p<R
 | _=>True
theorem RN.af(k:BY p W W'):∀(i:Nat) (x:Value),RN p w1 i x W->RN p w1 i x W':=by
 intro i x h;unfold RN at *;split <;> simp only at h
 ·obtain⟨t,e,a⟩:=h;exact⟨t,e,a.af k⟩
 ·exact h
 ·exact h
 ·obtain⟨t,y,b,e,a⟩:=h;exact⟨t,y,b,e,a.af k⟩
 ·exact h
 ·obtain⟨t,e,a⟩:=h;exact⟨t,e,a.af k⟩
 ·exact h
 ·exact h
 ·obtain⟨t,y,b,e,a⟩:=h;exact⟨t,y,b,e,a.af k⟩
 ·exact h
 ·exact h
 ·obtain⟨R,e,h1,d,c⟩:=h;exact⟨R,e,k R _ c h1,d,c⟩
 ·trivial
def DbG(B p k:Nat)(w1:World)(L:Nat->Bool)(W:World):Prop:=Rd B W p (k+(if L 2=true then 1 else 0)+(if L 7=true then 1 else 0))/\(L 7=true->L 2=true)/\w1.grownBy W (aB p)
structure Vz(B p:Nat)(w1:World)(R:Nat)(kk:Nat)(b:BAt)(W:World):Prop where
 rd:Rd B W p kk
 gr:w1.grownBy W (aB p)
 box:W.heap[R]?=aB (aO #[.string b.aa,.string b.name,b.v] 46 (0,0))
 Rge:w1.heap.size<=R
 plt:p<w1.heap.size
 lin:Ap W b.v b.ls
 abv:∀q,q<w1.heap.size->Aw q b.v b.ls
 farR:Aw R b.v b.ls
 ah:∀x∈b.ls,(∃z∈rulesOf b.aa,z.1=x.key)/\x.ws.length<=3/\∀y∈x.ws,y.length<=200
theorem Vz.Rlt{R:Nat}{b:BAt}(h:Vz B p w1 R kk b W):R<W.heap.size:=(aG.1 h.box).1
theorem Vz.grown{R:Nat}{b:BAt}(h:Vz B p w1 R kk b W)(g:W.grownBy W' (aB p))(r:Rd B W' p kk'):Vz B p w1 R kk' b W' :=
 ⟨r,Ah h.gr g,BY.grown g R _ (aQ h.plt h.Rge) h.box,h.Rge,h.plt,h.lin.aj (h.abv p h.plt) g,h.abv,h.farR,h.ah⟩
theorem Vz.V{R:Nat}{b:BAt}(h:Vz B p w1 R kk b W)(a:Below W.heap.size W W'):Vz B p w1 R kk b W' :=
 ⟨h.rd.V a,Ah h.gr (Ar a _),by rw[a.block R h.Rlt];exact h.box,h.Rge,h.plt,h.lin.V a,h.abv,h.farR,h.ah⟩
theorem Vz.put{R:Nat}{b:BAt}(h:Vz B p w1 R kk b W)(e:Ap W v' ls')(f:∀q,q<w1.heap.size->Aw q v' ls')(c:Aw R v' ls')(j:∀x∈ls',(∃k∈rulesOf b.aa,k.1=x.key)/\x.ws.length<=3/\∀y∈x.ws,y.length<=200):Vz B p w1 R kk ⟨b.aa,b.name,v',ls'⟩ (W.setRow R #[.string b.aa,.string b.name,v']):=by
 have d:=Br W R #[.string b.aa,.string b.name,v'];have l:=aQ h.plt h.Rge;refine⟨AJ.rd h.rd (AJ.ag (S:=[R]) d (fun g m=>by cases m;simp)) (fun i a=>by rw[aK.1 a];exact l),⟨h.gr.os,h.gr.tape,h.gr.output,by rw[bE];exact h.gr.size,fun i a n=>?_⟩,bJ _ _ _ _ _ _ h.box,h.Rge,h.plt,e.aj c d,f,c,j⟩;have:=h.Rge;rw[bB _ _ _ _ (by omega)];exact h.gr.block i a n
theorem Vz.out{R s:Nat}{b:BAt}(h:Vz B p w1 R kk b W)(l:s=w.heap.size)(y:w1.heap.size=w.heap.size+1)(a:w.grownBy w1 (aB p))(m:p<w.heap.size)(n:kk<=k+100)(o:b.ls.length<=7)(r:b.name.size<=4)(t:1<=(rulesOf b.aa).length)(cs:Array Value):ZQ B p k w (aX (bI #[.string b.aa,.string b.name,b.v])) (W.setRow s cs):=by
 subst l;have f:=Br W w.heap.size cs;refine⟨b,kk,rfl,n,AJ.rd h.rd (AJ.ag (S:=[w.heap.size]) f (fun g u=>by cases u;simp)) (fun i c=>by rw[aK.1 c];exact m),⟨h.gr.os.trans a.os,h.gr.tape.trans a.tape,h.gr.output.trans a.output,?_,fun i c j=>?_⟩,⟨h.lin.aj (h.abv _ (by omega)) f,fun q z=>h.abv q (by omega)⟩,r,o,fun x d=>(h.ah x d).2,Vy t,fun x d=>by obtain⟨⟨A,v,e⟩,_⟩:=h.ah x d;rw[<-e];exact XK v⟩
 ·rw[bE];have:=h.gr.size;omega
 ·rw[bB _ _ _ _ (by omega),h.gr.block i (by omega) j];exact a.block i c j
def Aff(B p k:Nat)(w1:World)(R:Nat)(kind name:ByteArray)(i:Value)(W:World):Prop:=∃(m kk:Nat) (b:BAt),i=.int .i64 (m:Int)/\m<=7/\b.ls.length+m<=7/\kk+10*m<=k+73/\b.aa=kind/\b.name=name/\Vz B p w1 R kk b W
theorem E8(B p k:Nat)(w:World)(h:Rd B w p k)(dx:k<=700000):Calls prog 106 #[aD (aB ⟨p,0,aC⟩)] w fun e w'=>ZQ B p k w e w':=by
 have cr:=h.lt;have cs:Rd B (w.alloc (aO #[.string ⟨#[]⟩,.string ⟨#[]⟩,aA aC 0 0] 46)) p k:=h.V ((aR _ _).alloc (aN _) _);have ct:w.grownBy (w.alloc (aO #[.string ⟨#[]⟩,.string ⟨#[]⟩,aA aC 0 0] 46)) (aB p):=BI (bA _ _ _) _;have cu:=Ai w (aO #[.string ⟨#[]⟩,.string ⟨#[]⟩,aA aC 0 0] 46);have cv:(w.alloc (aO #[.string ⟨#[]⟩,.string ⟨#[]⟩,aA aC 0 0] 46)).heap.size=w.heap.size+1:=by simp
 generalize bo:w.alloc (aO #[.string ⟨#[]⟩,.string ⟨#[]⟩,aA aC 0 0] 46)=w1 at *;have cw:=Ab bo;clear bo;go_enter func106,ntmps106;go_upto_region 1 with fail
 rw[cw.out];go_cut [3] from 8 to 18 (fun q ax=>Agd B p k w1 q ax)
 case first =>
  have Y:=fun n (dy:n<=k+1) W (cx:Rd B W p n)=>A1 B p n 4 W cx (by omega) (by omega) (by omega)
  have Z:p<w1.heap.size:=by omega
  refine FE (AE (fun v=>⟨#[aD (aB ⟨p,0,aC⟩),undef,aD (aB ⟨w.heap.size,0,aC⟩),v 11,undef,undef,undef,undef,v 0,v 1,v 2,v 3,v 4,v 5,v 6,v 7,v 8,v 9,v 10,undef,undef,undef,undef,undef,undef,undef,undef,undef,undef,undef,undef,undef,undef,undef,undef,undef,undef,undef,undef,undef,undef,undef,undef,undef,undef,undef,undef,undef,undef,undef,undef,undef,undef,undef,undef,undef,undef,undef],[]⟩) (RN p w1) (DbG B p k w1)) 12 13 [0,1,2,3,4,5,6,7,8,9,10,11,12] (by kernel_rfl) rfl (by decide) (by kernel_rfl) ?_ ?_
  ·exact⟨fun _=>undef,rfl,fun i I=>by
    have:13<=i:=by simpa using I
    unfold RN;split <;> first|omega|trivial,⟨cs,fun h=>h,⟨rfl,rfl,rfl,aN _,fun _ _ _=>rfl⟩⟩⟩
  ·refine Ak.cons [] rfl (by decide) (by kernel_rfl) ?o0 (Ak.cons [] rfl (by decide) (by kernel_rfl) ?o1 (Ak.cons [1] rfl (by decide) (by kernel_rfl) ?o2 (Ak.cons [0,2] rfl (by decide) (by kernel_rfl) ?o3 (Ak.cons [3] rfl (by decide) (by kernel_rfl) ?o4 (Ak.cons [] rfl (by decide) (by kernel_rfl) ?o5 (Ak.cons [] rfl (by decide) (by kernel_rfl) ?o6 (Ak.cons [6,2] rfl (by decide) (by kernel_rfl) ?o7 (Ak.cons [5,7] rfl (by decide) (by kernel_rfl) ?o8 (Ak.cons [8] rfl (by decide) (by kernel_rfl) ?o9 (Ak.cons [4,9] rfl (by decide) (by kernel_rfl) ?o10 (Ak.cons [] rfl (by decide) (by kernel_rfl) ?o11 (Ak.last [11,10,7,0,1,2,3,4,5,6,7,8,9,10,11] rfl (by kernel_rfl) ?o12))))))))))));case o0 =>
    rintro L _ W z o ⟨v,rfl,d,l,r,j⟩ K a;go_simp;refine a.out _ _ (AE.next d 0 _ rfl (RN.af (BY.alloc _ _ _)) ⟨_,rfl,Ai _ _,aQ Z j.size⟩ ⟨?_,by simpa [BN] using r,Ah j (BI (bA _ _ _) _)⟩);simpa [BN] using l.V ((aR _ _).alloc (aN _) _)
   case o1 =>
    rintro L _ W z o ⟨v,rfl,d,l,r,j⟩ K a;go_simp;exact a.out _ _ (AE.next d 1 _ rfl (RN.af (BY.refl _ _)) rfl ⟨by simpa [BN] using l,by simpa [BN] using r,j⟩)
   case o2 =>
    rintro L _ W z o ⟨v,rfl,d,l,r,j⟩ K a;have ay:v 1=aD (aB ⟨p,0,aC⟩):=d 1 (o 1 (by simp));have J:L 7=false:=by
     cases J:L 7
     ·rfl
     ·have:=r J;rw[z]at this;cases this
    simp only[z,J,cC,if_false,bP]at l;go_simp;go_wp2_with (go_at_call 44;refine(Y _ (by omega) _ l).mono ?_;rintro e W' ⟨y,s,rfl,az,aa⟩)
    exact a.out _ _ (AE.next d 2 _ (by simp[ay]) (RN.af (BY.grown aa)) ⟨y,s,rfl⟩ ⟨by simpa [BN,J] using az,by simp[BN,J],Ah j aa⟩)
   case o3 =>
    rintro L _ W z o ⟨v,rfl,d,l,r,j⟩ K a;obtain⟨t,a0,M⟩:=d 0 (o 0 (by simp));obtain⟨y,s,a1⟩:=d 2 (o 2 (by simp));have ab:(0:Int)<=(y:Int):=by omega
    have cy:(y:Int)<4:=by omega
    go_simp;exact a.out _ _ (AE.next d 3 _ (by simp[a0,a1]) (RN.af (BY.refl _ _)) ⟨t,y,s,rfl,M⟩ ⟨by simpa [BN] using l,by simpa [BN] using r,j⟩)
   case o4 =>
    rintro L _ W z o ⟨v,rfl,d,l,r,j⟩ K a;obtain⟨t,y,s,a2,M⟩:=d 3 (o 3 (by simp));obtain⟨u,N,cz⟩:=M.cell (show y<IT.length from s);go_simp;exact a.out _ _ (AE.next d 4 _ (by simp[a2]) (RN.af (BY.refl _ _)) ⟨u,N,rfl⟩ ⟨by simpa [BN] using l,by simpa [BN] using r,j⟩)
   case o5 =>
    rintro L _ W z o ⟨v,rfl,d,l,r,j⟩ K a;go_simp;refine a.out _ _ (AE.next d 5 _ rfl (RN.af (BY.alloc _ _ _)) ⟨_,rfl,Ai _ _,aQ Z j.size⟩ ⟨?_,by simpa [BN] using r,Ah j (BI (bA _ _ _) _)⟩);simpa [BN] using l.V ((aR _ _).alloc (aN _) _)
   case o6 =>
    rintro L _ W z o ⟨v,rfl,d,l,r,j⟩ K a;go_simp;exact a.out _ _ (AE.next d 6 _ rfl (RN.af (BY.refl _ _)) rfl ⟨by simpa [BN] using l,by simpa [BN] using r,j⟩)
   case o7 =>
    rintro L _ W z o ⟨v,rfl,d,l,r,j⟩ K a;have ay:v 6=aD (aB ⟨p,0,aC⟩):=d 6 (o 6 (by simp));have ac:L 2=true:=o 2 (by simp);simp only[z,ac,cC,if_false,if_true,bP]at l;go_simp;go_wp2_with (go_at_call 44;refine(Y _ (by omega) _ l).mono ?_;rintro e W' ⟨y,s,rfl,az,aa⟩)
    exact a.out _ _ (AE.next d 7 _ (by simp[ay]) (RN.af (BY.grown aa)) ⟨y,s,rfl⟩ ⟨by simpa [BN,ac] using az,by simp[BN,ac],Ah j aa⟩)
   case o8 =>
    rintro L _ W z o ⟨v,rfl,d,l,r,j⟩ K a;obtain⟨t,a0,M⟩:=d 5 (o 5 (by simp));obtain⟨y,s,a1⟩:=d 7 (o 7 (by simp));have ab:(0:Int)<=(y:Int):=by omega
    have cy:(y:Int)<4:=by omega
    go_simp;exact a.out _ _ (AE.next d 8 _ (by simp[a0,a1]) (RN.af (BY.refl _ _)) ⟨t,y,s,rfl,M⟩ ⟨by simpa [BN] using l,by simpa [BN] using r,j⟩)
   case o9 =>
    rintro L _ W z o ⟨v,rfl,d,l,r,j⟩ K a;obtain⟨t,y,s,a2,M⟩:=d 8 (o 8 (by simp));obtain⟨u,N,cz⟩:=M.cell (show y<IU.length from s);go_simp;exact a.out _ _ (AE.next d 9 _ (by simp[a2]) (RN.af (BY.refl _ _)) ⟨u,N,rfl⟩ ⟨by simpa [BN] using l,by simpa [BN] using r,j⟩)
   case o10 =>
    rintro L _ W z o ⟨v,rfl,d,l,r,j⟩ K a;obtain⟨u,N,c0⟩:=d 4 (o 4 (by simp));obtain⟨x,Q,ad⟩:=d 9 (o 9 (by simp));go_simp;exact a.out _ _ (AE.next d 10 _ (by simp[c0,ad]) (RN.af (BY.refl _ _)) ⟨u,N,x,Q,rfl⟩ ⟨by simpa [BN] using l,by simpa [BN] using r,j⟩)
   case o11 =>
    rintro L _ W z o ⟨v,rfl,d,l,r,j⟩ K a;go_simp;refine a.out _ _ (AE.next d 11 _ rfl (RN.af (BY.alloc _ _ _)) ⟨_,rfl,Ai _ _,j.size,aQ Z j.size⟩ ⟨?_,by simpa [BN] using r,Ah j (BI (bA _ _ _) _)⟩);simpa [BN] using l.V ((aR _ _).alloc (aN _) _)
   case o12 =>
    rintro L _ W z o ⟨v,rfl,d,l,r,j⟩ K a;obtain⟨R,bp,bq,c1,c2⟩:=d 11 (o 11 (by simp));obtain⟨u,N,x,Q,c3⟩:=d 10 (o 10 (by simp));have ac:L 2=true:=o 2 (by simp);have J:L 7=true:=o 7 (by simp);simp only[ac,J,if_true]at l;rw[if_pos (by rfl)];refine wp_store_row 46 _ _ rfl R #[.string u,.string x,aA aC 0 0] bp c3 46 _ bq (by kernel_rfl) rfl (by first|rfl|kernel_rfl) ?_;refine a.out _ _ (aU ?_);have c4:W.grownBy (W.setRow R #[.string u,.string x,aA aC 0 0]) (aB R):=⟨rfl,rfl,rfl,by rw[bE];exact aN _,fun i _ I=>bB _ _ _ _ (fun e=>I (by rw[e]))⟩;have br:(W.setRow R #[.string u,.string x,aA aC 0 0]).heap[R]?=aB (aO #[.string u,.string x,aA aC 0 0] 46 (0,0)):=bJ _ _ _ _ _ _ bq;have c5:=AJ.rd l (AJ.ag (S:=[R]) c4 (fun g j=>by cases j;simp)) (fun i I=>by rw[aK.1 I];exact c2);have c6:w1.grownBy (W.setRow R #[.string u,.string x,aA aC 0 0]) (aB p):=⟨j.os,j.tape,j.output,by rw[bE];exact j.size,fun i I c7=>by rw[bB _ _ _ _ (by omega)];exact j.block i I c7⟩;clear a K;go_wp2_with fail
    go_meet;exact⟨R,u,x,bp,br,⟨Afc u N,Afd x Q,c1⟩,c5,c6⟩
 case rest =>
  obtain⟨R,kind,name,rfl,ae,⟨bs,c8,c9⟩,a3,bt⟩:=hcut;have Z:p<w1.heap.size:=by omega
  have bu:Vz B p w1 R (k+2) ⟨kind,name,aA aC 0 0,[]⟩ wc:=⟨a3,bt,ae,c9,Z,⟨⟨rfl,aC,0,rfl,⟨aN _,bR _⟩,.inl rfl⟩,by simp⟩,fun q _=>⟨.inl rfl,by simp⟩,⟨.inl rfl,by simp⟩,by simp⟩;have Y:=A1 B p (k+2) 8 wc a3 (by omega) (by omega) (by omega);clear ae a3 bt;go_wp2_with (go_at_call 44;refine Y.mono ?_)
  rintro e w3 ⟨da,dz,rfl,bw,aj⟩;have a4:=Ab (bu.grown aj bw);clear Y bu bw aj;go_wp2;go_loopw [4] (fun i wr=>Aff B p k w1 R kind name i wr) (fun i _=>(intOf i).toNat)
  case atStart=>exact⟨da,k+2+1,⟨kind,name,aA aC 0 0,[]⟩,rfl,by omega,by simp;omega,by omega,rfl,rfl,a4.out⟩
  case round =>
   obtain⟨m,kk,b,rfl,bx,db,d0,bz,b0,A⟩:=hrel;obtain⟨E,F,b1⟩:=A.lin.1.ad;obtain⟨bk,bn,bv,G⟩:=b;simp only at bz b0 b1 db;subst bz b0 b1;have k0:=Aa A.box 0;have dc:=Aa A.box 1;have dd:=Aa A.box 2;simp only[aL,aF,aI]at k0 dc dd;cases m with
   | zero =>
    have b2:wr.heap[w.heap.size]?=aB (aO #[.string ⟨#[]⟩,.string ⟨#[]⟩,aA aC 0 0] 46 (0,0)):=by rw[A.gr.block w.heap.size (by omega) (by intro e;cases e;omega)];exact cu
    have b3:=Ab (A.out (k:=k) rfl cv ct cr (by omega) (by simp only;omega) c8 bs #[.string bk,.string bn,aA E G.length F]);clear A a4;generalize G.length=nl at *;go_wp2_with (with_reducible show cL _ _ _ (bX _ (bU _ (bN 2) _) _ _ _ _::_) _ _;refine bG rfl 46 _ _ rfl w.heap.size #[.string bk,.string bn,aA E nl F] ?_ ?_ 46 _ b2 ?_ ?_ ?_ ?_)
    all_goals (first|rfl|kernel_rfl|exact⟨rfl,rfl,rfl⟩|(obtain⟨i9,ad,_,a5,_⟩:=cM Cj;exact⟨i9,ad,a5⟩)|skip)
    have z5:(wr.setRow w.heap.size #[.string bk,.string bn,aA E nl F]).heap[w.heap.size]?=aB (aO #[.string bk,.string bn,aA E nl F] 46 (0,0)):=bJ _ _ _ _ _ _ b2;have ab:=Aa z5 0;have a6:=Aa z5 1;have a7:=Aa z5 2;simp only[aL,aF,aI]at ab a6 a7;generalize wr.setRow w.heap.size #[.string bk,.string bn,aA E nl F]=W at b3 ab a6 a7 z5⊢;exact cD (v:=bI #[.string bk,.string bn,aA E nl F]) (by simp[results,results106,go_sem,ab,a6,a7]) rfl b3.out
   | succ m =>
    have d1:((m+1:Nat):Int)>0:=by omega
    have b4:=Vx B p kk bk wr A.rd (by omega) bs;have b5:=Ab A;have de:=A.Rlt;have d2:=A.gr.size;have b6:Aj G:=⟨by omega,fun x Q=>⟨aP (A.ah x Q).2.1 (by decide),fun y s=>aP ((A.ah x Q).2.2 y s) (by decide)⟩⟩;have a8:=Ab b6;clear A a4 b6;go_wp2_with (go_at_call 165;refine b4.mono ?_)
    rintro e w2 ⟨key,xo,xc,b7,ws,b8,rfl,o3,df,b9,d3,ca,g3⟩;have a9:=b5.out.grown g3 ca;have aj:=g3.size;have ba:=(aR w2.heap.size w2).alloc (aN _) (aO #[.string key,aA xo ws.length xc] 115);have T:=a9.V ba;have bb:=Ab (AI o3 ba);have bc:=Ab b8;have cb:=Ab b9;have ak:=Aa T.box 0;have al:=Aa T.box 1;have am:=Aa T.box 2;have bd:=Ai w2 (aO #[.string key,aA xo ws.length xc] 115);have an:=Aa bd 0;have ao:=Aa bd 1;simp only[aL,aF,aI]at ak al am an ao;have d4:w2.heap.size<(w2.alloc (aO #[.string key,aA xo ws.length xc] 115)).heap.size:=by simp
    have d5:R<w2.heap.size:=a9.Rlt;have d6:wr.heap.size<=w2.heap.size:=aj;have ap:=OH (b:=⟨bk,bn,aA E G.length F,G⟩) (x:=⟨key,aA xo ws.length xc,ws⟩) T.lin a8.out (AF bb.out) (by simp only;omega);have cc:=Ab T;clear b4 a9 T o3 b8 b9 g3 ca ba b5;generalize keyN _ _=cd at ap;generalize sameN _ _=ce at ap;generalize cf:G.length=nl at *;have cg:=Ab cf;clear cf;generalize ch:ws.length=nw at *;have aq:=Ab ch;clear ch;generalize ci:w2.alloc (aO #[.string key,aA xo nw xc] 115)=d7 at *;go_wp2_with (go_at_call 155;(try rw[ci]);refine ap.mono ?_)
    rintro e ar ⟨rfl,H⟩;have br:=H.size;have au:=Ab (cc.out.V H);have aw:=Ab (AI bb.out H);have U:=(H.cell (aM _ _ ak)).trans ak;have af:=(H.cell (aM _ _ al)).trans al;have ag:=(H.cell (aM _ _ am)).trans am;have V:=(H.cell (aM _ _ an)).trans an;have ah:=(H.cell (aM _ _ ao)).trans ao;obtain⟨dg,cj,dh⟩:=bc.out;have ck:Bv (rulesOf bk) key=aB dg:=by rw[<-dh];exact Abe (CB bk) cj
    obtain⟨P,cl,cm⟩:=VV ck;have cn:∀W,Calls prog 90 #[.string bk,.string key] W fun e w'=>e=aX (.int .i64 (P:Int))/\Below W.heap.size W w':=by
     intro W;have:=Fu bk key W;rw[cl]at this;exact this
    clear ap ak al am an ao bb cc ck cl bd ci;go_upto_region 7 with fail
    go_cut [53] from 35 to 53 (fun c ax=>(∃C:Bool,c=.bool C)/\Below ar.heap.size ar ax)
    case first =>
     have v0:=fun p:Gr ar=>Aq U p
     have v1:=fun p:Gr ar=>Aq V p
     clear au aw bc cb a8 U af ag V ah cj;by_cases di:ce=0
     ·subst di;by_cases dj:cd=0
      ·subst dj;refine A5 (by kernel_rfl) (by kernel_rfl) ?_;iterate 6 quiet_step (fail)
       iterate 11 (with_reducible refine AM ?_ ?_;kernel_rfl;simp only[Act.put,bT,bZ,cA])
       iterate 2 quiet_step (fail)
       refine wpQuiet_nil ?_;rintro _ ⟨⟨dk,be⟩,rfl⟩;go_wp2_with fail
       go_meet;exact⟨⟨_,rfl⟩,be⟩
      ·have d8:((cd:Int)==0)=false:=by rw[beq_eq_false_iff_ne];omega
       refine CV 19 19 (by kernel_rfl) rfl ?_;refine Dr [true,true,true,true,true,true,true,true,false,true,true,true,true,false,false,false,false,false,false] 7 rfl (by kernel_rfl) ?_;simp only[AZ,Bc,AX];iterate 12 (refine Bt (fun K a=>?_);go_simp;refine a _ ?_;clear a K)
       refine Cq ?_;refine DN (f:=6) (rs:=[8]) (by kernel_rfl) (by simp) ?_;rintro⟨d9,co⟩;refine Ed.cons rfl (by decide) (fun K a=>?_) Ed.nil;go_simp;go_wp2_with (go_at_call 56;refine(cm _).mono ?_;rintro e ai ⟨ea,eb,ec,ed,av,ee,ef,eg,eh,rfl,bx,dl,ei,D⟩)
       refine a.out _ _ D ?_;clear a K;have t2:=fun p:Gr ai=>Aq dl.2.2.1 p
       have dm:∀p:Gr ai,Calls prog 90 #[.string bk,.string key] p.u fun e w'=>e=aX (.int .i64 (P:Int))/\Below p.u.heap.size p.u w':=fun p=>cn p.u
       obtain⟨ej,ek⟩:=bx;refine Dr [false,false,false,false,false,false,false,false,false,false,false,false,false,true,true,true,true,true,true] 0 rfl (by kernel_rfl) ?_;simp only[AZ,Bc,AX];refine Bt (fun K a=>?_);go_simp;apply cK;refine⟨fun _=>?_,a _ ?_⟩;go_at_call 90
       exact dm _;clear a K;iterate 5 (refine Bt (fun K a=>?_);go_simp;refine a _ ?_;clear a K)
       refine Cq ?_;refine OE (by kernel_rfl) ?_ 0;rintro⟨el,dn⟩;refine aU ?_;go_wp2_with fail
       go_meet;exact⟨⟨_,rfl⟩,co.trans ((D.trans (dn.mono D.size)).mono co.size)⟩
     ·have em:((ce:Int)==0)=false:=by rw[beq_eq_false_iff_ne];omega
      refine A5 (by kernel_rfl) (by kernel_rfl) ?_;iterate 3 quiet_step (fail)
      iterate 15 (with_reducible refine AM ?_ ?_;kernel_rfl;simp only[Act.put,bT,bZ,cA])
      quiet_step (fail)
      refine wpQuiet_nil ?_;rintro _ ⟨⟨dk,be⟩,rfl⟩;go_wp2_with fail
      go_meet;exact⟨⟨_,rfl⟩,be⟩
    case rest =>
     obtain⟨ai,dp⟩:∃ai,ai=wc:=⟨_,rfl⟩;subst dp;obtain⟨⟨C,rfl⟩,D⟩:=hcut;have en:=D.size;have O:=Ab (au.out.V D);have bf:=Ab (AI aw.out D);clear cm cn;cases C
     ·clear U af ag V ah au aw;go_wp2;go_roundw;case rel=>exact⟨m,b7,⟨bk,bn,aA E nl F,G⟩,by go_num,by omega,by have:=cg.out;simp only;omega,by omega,rfl,rfl,O.out⟩
      case measure=>simp[intOf]
     ·have cp:=Eo (b:=⟨bk,bn,aA E nl F,G⟩) (x:=⟨key,aA xo nw xc,ws⟩) O.out.lin a8.out (by have:=AF bf.out;show Am _ _ _ _ _;rw[aq.out];exact this) (by simp only;rw[aq.out];omega);have dq:=(D.cell (aM _ _ U)).trans U;have dr:=(D.cell (aM _ _ af)).trans af;have ds:=(D.cell (aM _ _ ag)).trans ag;have dt:=(D.cell (aM _ _ V)).trans V;have du:=(D.cell (aM _ _ ah)).trans ah;clear U af ag V ah au aw;go_wp2_with (go_at_call 86;refine cp.mono ?_)
      rintro e eo ⟨bg,bh,bi,bj,rfl,X,dv⟩;have bl:=O.out.V dv;have ae:=bl.box;simp only at ae;have cq:∀q,q<wr.heap.size->Bx q (aA xo nw xc) ws.length:=fun q bm=>by rw[aq.out];exact Bx.above bf.out bm
      have dw:=Ab (bl.put (v':=aA bg bh bi) (ls':=bj) X.2.2.2.1 (fun q bm=>X.2.2.2.2 q (by omega) (O.out.abv q bm) (cq q (by omega))) (X.2.2.2.2 R (by omega) O.out.farR (cq R de)) (fun y s=>by
       rcases X.2.2.1 y s with rfl|s
       ·exact⟨bc.out,by simp only;rw[aq.out];exact df,cb.out⟩
       ·exact O.out.ah y s))
      have ep:bj.length=nl+1:=by have:=X.2.1;have:=cg.out;simp only at *;omega
      clear cp X bl O bf dq dr ds dt du;go_wp2_with (with_reducible show cL _ _ _ (bX _ (bU _ (bN 3) _) _ _ _ _::_) _ _;refine bG rfl 46 _ _ rfl R #[.string bk,.string bn,aA bg bh bi] ?_ ?_ 46 _ ae ?_ ?_ ?_ ?_)
      all_goals (first|rfl|kernel_rfl|exact⟨rfl,rfl,rfl⟩|(obtain⟨i9,ad,_,a5,_⟩:=cM Cj;exact⟨i9,ad,a5⟩)|skip)
      go_roundw;case rel=>exact⟨m,b7,⟨bk,bn,aA bg bh bi,bj⟩,by go_num,by omega,by simp only;omega,by omega,rfl,rfl,dw.out⟩
      case measure=>simp[intOf]
variable {bs bs':List BAt}{S d:Nat}{v:Value}
def CO(b:BAt):Prop:=b.name.size<=30/\b.ls.length<=7/\∀x∈b.ls,x.ws.length<=3/\∀y∈x.ws,y.length<=200
theorem CO.ac{b:BAt}(h:CO b):Aj b.ls:=⟨aP h.2.1 (by decide),fun x a=>⟨aP (h.2.2 x a).1 (by decide),fun y c=>aP ((h.2.2 x a).2 y c) (by decide)⟩⟩
theorem GE(c:bs.length<=1048576)(h:∀b∈bs,CO b):A3 bs:=⟨c,fun b a=>⟨aP (h b a).1 (by decide),(h b a).ac⟩⟩
theorem CO.same{b c:BAt}(h:CO b)(e:c.I=b.I):CO c:=by
 have d:c.name=b.name:=congrArg PBlock.name e;have a:c.ls.map LAt.I=b.ls.map LAt.I:=congrArg PBlock.ac e;refine⟨by rw[d];exact h.1,by have:=congrArg bQ a;simp at this;rw[this];exact h.2.1,fun x f=>?_⟩;have:x.I∈b.ls.map LAt.I:=a▸aT f;obtain⟨y,g,i⟩:=bH.1 this;have j:y.ws=x.ws:=congrArg PLine.ws i;rw[<-j];exact h.2.2 y g
theorem KR{cs:List BAt}(h:∀b∈bs,CO b)(e:cs.map BAt.I=bs.map BAt.I):∀c∈cs,CO c:=fun c a=>by
 have:c.I∈bs.map BAt.I:=e▸aT a;obtain⟨b,d,f⟩:=bH.1 this;exact(h b d).same f.symm
theorem El.same{b c:BAt}(h:El b)(e:c.I=b.I):El c:=by
 have a:c.aa=b.aa:=congrArg PBlock.aa e;have d:c.ls.map LAt.I=b.ls.map LAt.I:=congrArg PBlock.ac e;refine⟨by rw[a];exact h.1,fun x f=>?_⟩;have:x.I∈b.ls.map LAt.I:=d▸aT f;obtain⟨y,g,i⟩:=bH.1 this;have j:y.key=x.key:=congrArg PLine.key i;rw[<-j];exact h.2 y g
theorem T6{cs:List BAt}(h:∀b∈bs,El b)(e:cs.map BAt.I=bs.map BAt.I):∀c∈cs,El c:=fun c a=>by
 have:c.I∈bs.map BAt.I:=e▸aT a;obtain⟨b,d,f⟩:=bH.1 this;exact(h b d).same f.symm
structure TW(B p:Nat)(w1:World)(S:Nat)(kk:Nat)(v:Value)(bs:List BAt)(W:World):Prop where
 rd:Rd B W p kk
 gr:w1.grownBy W (aB p)
 box:W.heap[S]?=aB (aO #[v] 25 (0,0))
 Sge:w1.heap.size<=S
 plt:p<w1.heap.size
 bin:Au W v bs
 abv:∀q,q<w1.heap.size->A7 q v bs
 farS:A7 S v bs
 ah:∀b∈bs,CO b
 smk:∀b∈bs,El b
theorem TW.Slt(h:TW B p w1 S kk v bs W):S<W.heap.size:=(aG.1 h.box).1
theorem TW.grown(h:TW B p w1 S kk v bs W)(g:W.grownBy W' (aB p))(r:Rd B W' p kk'):TW B p w1 S kk' v bs W' :=
 ⟨r,Ah h.gr g,BY.grown g S _ (aQ h.plt h.Sge) h.box,h.Sge,h.plt,h.bin.aj (h.abv p h.plt) g,h.abv,h.farS,h.ah,h.smk⟩
theorem TW.V(h:TW B p w1 S kk v bs W)(a:Below W.heap.size W W'):TW B p w1 S kk v bs W' :=
 ⟨h.rd.V a,Ah h.gr (Ar a _),by rw[a.block S h.Slt];exact h.box,h.Sge,h.plt,h.bin.V a,h.abv,h.farS,h.ah,h.smk⟩
theorem TW.put(h:TW B p w1 S kk v bs W)(d:Au W v' bs')(e:∀q,q<w1.heap.size->A7 q v' bs')(b:A7 S v' bs')(f:∀x∈bs',CO x)(j:∀x∈bs',El x):TW B p w1 S kk v' bs' (W.setRow S #[v']):=by
 have c:=Br W S #[v'];have k:=aQ h.plt h.Sge;refine⟨AJ.rd h.rd (AJ.ag (S:=[S]) c (fun g l=>by cases l;simp)) (fun i a=>by rw[aK.1 a];exact k),⟨h.gr.os,h.gr.tape,h.gr.output,by rw[bE];exact h.gr.size,fun i a m=>?_⟩,bJ _ _ _ _ _ _ h.box,h.Sge,h.plt,d.aj b c,e,b,f,j⟩;have:=h.Sge;rw[bB _ _ _ _ (by omega)];exact h.gr.block i a m
def ZR(d B p k:Nat)(w:World)(e:cE)(w':World):Prop:=∃(v:Value) (bs:List BAt) (k':Nat),e=aX (bI #[v])/\k'<=k+d/\Rd B w' p k'/\w.grownBy w' (aB p)/\Ax w.heap.size w' v bs/\bs.length<=60/\(∀b∈bs,CO b)/\∀b∈bs,El b
theorem TW.out{v5:Value}{c:List BAt}(h:TW B p w1 S kk v bs W)(s:w1.heap.size=w.heap.size+1)(b:w.grownBy w1 (aB p))(l:p<w.heap.size)(m:kk<=k+d)(t:bs.length<=60)(e:c.map BAt.I=bs.map BAt.I)(n:Ax W.heap.size W' v5 c)(o:Below W.heap.size W W')(cs:Array Value):ZR d B p k w (aX (bI #[v5])) (W'.setRow w.heap.size cs):=by
 have q:=Br W' w.heap.size cs;have a:=h.V o;have u:=h.gr.size;refine⟨v5,c,kk,rfl,m,AJ.rd a.rd (AJ.ag (S:=[w.heap.size]) q (fun g r=>by cases r;simp)) (fun i f=>by rw[aK.1 f];exact l),⟨a.gr.os.trans b.os,a.gr.tape.trans b.tape,a.gr.output.trans b.output,?_,fun i f j=>?_⟩,(n.setRow w.heap.size (by omega) cs).mono (by omega),?_,KR h.ah e,T6 h.smk e⟩
 ·rw[bE];have:=a.gr.size;omega
 ·rw[bB _ _ _ _ (by omega),a.gr.block i (by omega) j];exact b.block i f j
 ·have:=congrArg bQ e;simp at this;omega
def Ad9(B p k:Nat)(w1:World)(S:Nat)(i:Value)(W:World):Prop:=∃(m kk:Nat) (v:Value) (bs:List BAt),i=.int .i64 (m:Int)/\m<=5/\bs.length+m<=5/\kk+100*m<=k+501/\TW B p w1 S kk v bs W
def Afg(B p k n:Nat)(w1:World)(S:Nat)(i:Value)(W:World):Prop:=∃(m:Nat) (v:Value) (bs:List BAt),i=.int .i64 (m:Int)/\m<=bs.length/\bs.length<=n/\TW B p w1 S k v bs W
theorem XL(i:Nat)(a:i<=60):(bW i).length<=7:=by rw[Lib.decDigits_length];exact Fm _ (by omega)
theorem XM(w:World)(m:Nat)(h:m<=60):∃ds:ByteArray,ds.size<=7/\∀q:Gr w,Calls prog 85 #[.int .i64 (m:Int)] q.u fun e w'=>e=aX (.string ds)/\Below q.u.heap.size q.u w' :=
 ⟨⟨(bW m).toArray⟩,by show (bW m).toArray.size<=7;rw[List.size_toArray];exact XL m h,fun q=>JQ m q.u (by omega)⟩
def KS(ds:ByteArray):ByteArray:=⟨#[110]⟩++ds
def Hq(nm:ByteArray):BAt:=⟨⟨#[98,101,114,116,104]⟩,nm,aA aC 0 0,[]⟩
theorem XN(nm:ByteArray)(a:Au w v bs)(b:bs.length<=1048576):Calls prog 54 #[bI #[v],bI #[.string ⟨#[98,101,114,116,104]⟩,.string nm,aA aC 0 0]] w fun e w'=>PE v bs (Hq nm) w e w' :=
 BT (x:=Hq nm) a b ⟨⟨rfl,aC,0,rfl,⟨aN _,bR _⟩,.inl rfl⟩,by intro x c;cases c⟩
theorem T8(ds:ByteArray)(h:ds.size<=7):CO (Hq (KS ds)):=by
 refine⟨?_,bR _,by intro x a;cases a⟩;show (KS ds).size<=30
 unfold KS;rw[ByteArray.size_append];show 1+ds.size<=30
 omega
theorem XO(nm:ByteArray):El (Hq nm):=⟨show (⟨#[98,101,114,116,104]⟩:ByteArray).size<=20 by decide,by intro x a;cases a⟩
theorem OW(q:Nat)(nm:ByteArray):Aw q (Hq nm).v (Hq nm).ls:=⟨.inl rfl,by intro x a;cases a⟩
theorem V0(B p k:Nat)(w:World)(h:Rd B w p k)(cq:k<=600000):Calls prog 78 #[aD (aB ⟨p,0,aC⟩)] w fun e w'=>ZR 600 B p k w e w':=by
 have ax:=h.lt;have ay:Rd B (w.alloc (aO #[aA aC 0 0] 25)) p k:=h.V ((aR _ _).alloc (aN _) _);have az:w.grownBy (w.alloc (aO #[aA aC 0 0] 25)) (aB p):=BI (bA _ _ _) _;have a0:=Ai w (aO #[aA aC 0 0] 25);have R:(w.alloc (aO #[aA aC 0 0] 25)).heap.size=w.heap.size+1:=by simp
 have z2:=Ai (w.alloc (aO #[aA aC 0 0] 25)) (aO #[aA aC 0 0] 25);have al:=(aR (w.heap.size+1) (w.alloc (aO #[aA aC 0 0] 25))).alloc (by simp) (aO #[aA aC 0 0] 25);rw[R]at z2;generalize a1:w.alloc (aO #[aA aC 0 0] 25)=w1 at *;have b3:=Ab a1;clear a1;have am:TW B p w1 (w.heap.size+1) k (aA aC 0 0) [] (w1.alloc (aO #[aA aC 0 0] 25)):=⟨ay.V (by rw[R];exact al),Ar (by rw[R];exact al) _,z2,by omega,by omega,⟨⟨rfl,aC,0,rfl,⟨aN _,bR _⟩,.inl rfl⟩,by simp⟩,fun q _=>⟨.inl rfl,by simp⟩,⟨.inl rfl,by simp⟩,by simp,by simp⟩;clear z2 al ay;generalize a2:w1.alloc (aO #[aA aC 0 0] 25)=w2 at *;have b4:=Ab a2;clear a2;have a3:=A1 B p k 6 w2 am.rd (by omega) (by omega) (by omega);go_enter func78,ntmps78;go_wp2_with (go_at_call 44;rw[b3.out,b4.out];refine a3.mono ?_)
 rintro e w3 ⟨b5,cr,rfl,a4,a5⟩;have a6:=Ab (am.grown a5 a4);clear a3 am a4 a5;go_wp2;go_loopw [4] (fun i wr=>Ad9 B p k w1 (w.heap.size+1) i wr) (fun i _=>(intOf i).toNat)
 case atStart=>exact⟨b5,k+1,aA aC 0 0,[],rfl,by omega,by simp;omega,by omega,a6.out⟩
 case round =>
  obtain⟨m,kk,v,bs,rfl,cs,ct,cu,a⟩:=hrel;obtain⟨sa,sc,rfl⟩:=a.bin.1.ad;have c0:=Aa a.box 0;simp only[aL,aF]at c0;clear a6;cases m with
  | zero =>
   have a7:=A1 B p kk 24 wr a.rd (by omega) (by omega) (by omega);have S:=Ab a;clear a;go_wp2_with (go_at_call 44;refine a7.mono ?_)
   rintro e s ⟨y,c,rfl,U,P⟩;have t:=S.out.grown P U;have c4:=Aa t.box 0;simp only[aL,aF]at c4;clear a7 S U P c0;by_cases b6:y=0
   ·subst b6;have a8:=A1 B p (kk+1) 2 s t.rd (by omega) (by omega) (by omega);have S:=Ab t;clear t;go_wp2_with (go_at_call 44;refine a8.mono ?_)
    rintro e b7 ⟨x,b8,rfl,ba,bb⟩;have G:=Ab (S.out.grown bb ba);clear a8 S ba bb c4;have b9:(60:Int)-(x:Int)=((60-x:Nat):Int):=by omega
    go_wp2;generalize bc:60-x=n at *;have ca:n<=60:=by omega
    have cv:59<=n:=by omega
    clear bc b9 b8;go_loopw [7] (fun i wr=>Afg B p (kk+1+1) n w1 (w.heap.size+1) i wr) (fun i W=>61-(intOf i).toNat)
    case atStart=>exact⟨0,aA sa bs.length sc,bs,rfl,by omega,by omega,G.out⟩
    case round =>
     obtain⟨an,v,Q,rfl,cw,cx,a⟩:=hrel;obtain⟨ta,bd,rfl⟩:=a.bin.1.ad;have be:=Aa a.box 0;simp only[aL,aF]at be;clear G;by_cases cb:Q.length<n
     ·have cc:((Q.length:Int)<(n:Int)):=by omega
      obtain⟨ds,cd,V⟩:∃ds:ByteArray,ds.size<=7/\∀q:Gr wr,Calls prog 85 #[.int .i64 (an:Int)] q.u fun e w'=>e=aX (.string ds)/\Below q.u.heap.size q.u w':=XM wr an (by omega)
      have H:∀q:Gr wr,Calls prog 54 #[bI #[aA ta Q.length bd],bI #[.string ⟨#[98,101,114,116,104]⟩,.string (KS ds),aA aC 0 0]] q.u fun e w'=>PE (aA ta Q.length bd) Q (Hq (KS ds)) q.u e w':=fun q=>XN (KS ds) (a.bin.V q.h) (aP (Nat.le_of_lt cb) (aP ca (by decide)))
      generalize bf:Hq (KS ds)=cy at H;have ac:=Ab bf;clear bf;unfold KS at H;have cz:¬ 9223372036854775807<1+ds.size:=by omega
      have v0:=fun q:Gr wr=>Aq be q
      have ce:=Ab (T8 ds cd);have g:=Ab a;clear a;go_upto_region 13 with fail
      refine CV 6 7 (by kernel_rfl) rfl ?_;refine Dr [true,true,true,true,true,false,false] 2 rfl (by kernel_rfl) ?_;simp only[AZ,Bc,AX];iterate 2 (refine Bt (fun K l=>?_);go_simp;refine l _ ?_;clear l K)
      refine Bt (fun K l=>?_);go_simp;apply cK;refine⟨fun _=>?_,l _ ?_⟩;go_at_call 85
      exact V _;clear l K;iterate 2 (refine Bt (fun K l=>?_);go_simp;refine l _ ?_;clear l K)
      refine Cq ?_;refine DN (f:=1) (rs:=[5]) (by kernel_rfl) (by simp) ?_;rintro⟨ao,ad⟩;refine Ed.cons rfl (by decide) (fun K l=>?_) Ed.nil;go_simp;go_wp2_with (go_at_call 54;refine(H ⟨ao,ad⟩).mono ?_;rintro e cf ⟨I,J,L,X,rfl,j,Y⟩)
      refine l.out _ _ Y ?_;clear l K;refine H7 (by kernel_rfl) rfl (by kernel_rfl) ?_;rintro⟨c1,bg⟩ K l;have cg:=ad.trans ((Y.trans (bg.mono Y.size)).mono ad.size);have ap:=g.out.V cg;have ae:=ap.box;have c2:=ad.size;have bh:=g.out.Slt;have ch:=g.out.gr.size;have af:=ap.put (v':=aA I J L) (bs':=X) (j.2.2.2.1.V bg) (fun q aq=>j.2.2.2.2 q (by show q<ao.heap.size;omega) (g.out.abv q aq) (by rw[<-ac.out];exact OW q _)) (j.2.2.2.2 _ (by show _<ao.heap.size;omega) g.out.farS (by rw[<-ac.out];exact OW _ _)) (fun y c=>by
       rcases j.2.2.1 y c with rfl|c
       ·rw[<-ac.out];exact ce.out
       ·exact g.out.ah y c) (fun y c=>by
       rcases j.2.2.1 y c with rfl|c
       ·rw[<-ac.out];exact XO _
       ·exact g.out.smk y c)
      have ci:=j.2.1;rw[if_pos (by rfl)];refine wp_store_row 25 _ _ rfl (w.heap.size+1) #[aA I J L] rfl rfl 25 _ ae (by first|kernel_rfl|exact Bg) rfl (by first|rfl|kernel_rfl) ?_;refine l.out _ _ (aU ?_);clear l K j ae ap;have cj:=Ab af;clear af H V;go_wp2;go_roundw;case rel=>exact⟨an+1,aA I J L,X,by go_num,by omega,by omega,cj.out⟩
      case measure=>simp[intOf];omega
     ·have cc:¬((Q.length:Int)<(n:Int)):=by omega
      have Z:=Di a.bin (GE (by omega) a.ah);have g:=Ab a;have ck:=a.gr.size;have aa:wr.heap[w.heap.size]?=aB (aO #[aA aC 0 0] 25 (0,0)):=by rw[a.gr.block w.heap.size (by omega) (by intro e;cases e;omega)];exact a0
      clear a;go_wp2_with (go_at_call 55;refine Z.mono ?_)
      first|rintro e u v9 rfl z A o9 o|rintro e u v9 z rfl A o9 o|rintro e u ⟨v9,z,rfl,A,o9,o⟩
      have z9:=(o.block w.heap.size (by omega)).trans aa;obtain⟨a9,c9,rfl,_⟩:=Al o9.row;have ab:=Ab (g.out.out (d:=600) (k:=k) R az ax (by omega) (by omega) A o9 o #[aA a9 z.length c9]);clear Z g o9 A o aa;generalize z.length=r at *;go_wp2_with (with_reducible show cL _ _ _ (bX _ (bU _ (bN 2) _) _ _ _ _::_) _ _;refine bG rfl 25 _ _ rfl w.heap.size #[aA a9 r c9] ?_ ?_ 25 _ z9 ?_ ?_ ?_ ?_)
      all_goals (first|rfl|kernel_rfl|exact Bg|skip)
      have z5:(u.setRow w.heap.size #[aA a9 r c9]).heap[w.heap.size]?=aB (aO #[aA a9 r c9] 25 (0,0)):=bJ _ _ _ _ _ _ z9;have M:=Aa z5 0;simp only[aL,aF]at M;generalize u.setRow w.heap.size #[aA a9 r c9]=W at ab M z5⊢;exact cD (v:=bI #[aA a9 r c9]) (by simp[results,results78,go_sem,M]) rfl ab.out
   ·have c3:((y:Int)==0)=false:=by rw[beq_eq_false_iff_ne];omega
    have a:=t;clear t;have Z:=Di a.bin (GE (by omega) a.ah);have g:=Ab a;have ck:=a.gr.size;have aa:s.heap[w.heap.size]?=aB (aO #[aA aC 0 0] 25 (0,0)):=by rw[a.gr.block w.heap.size (by omega) (by intro e;cases e;omega)];exact a0
    clear a;go_wp2_with (go_at_call 55;refine Z.mono ?_)
    first|rintro e u v9 rfl z A o9 o|rintro e u v9 z rfl A o9 o|rintro e u ⟨v9,z,rfl,A,o9,o⟩
    have z9:=(o.block w.heap.size (by omega)).trans aa;obtain⟨a9,c9,rfl,_⟩:=Al o9.row;have ab:=Ab (g.out.out (d:=600) (k:=k) R az ax (by omega) (by omega) A o9 o #[aA a9 z.length c9]);clear Z g o9 A o aa;generalize z.length=r at *;go_wp2_with (with_reducible show cL _ _ _ (bX _ (bU _ (bN 2) _) _ _ _ _::_) _ _;refine bG rfl 25 _ _ rfl w.heap.size #[aA a9 r c9] ?_ ?_ 25 _ z9 ?_ ?_ ?_ ?_)
    all_goals (first|rfl|kernel_rfl|exact Bg|skip)
    have z5:(u.setRow w.heap.size #[aA a9 r c9]).heap[w.heap.size]?=aB (aO #[aA a9 r c9] 25 (0,0)):=bJ _ _ _ _ _ _ z9;have M:=Aa z5 0;simp only[aL,aF]at M;generalize u.setRow w.heap.size #[aA a9 r c9]=W at ab M z5⊢;exact cD (v:=bI #[aA a9 r c9]) (by simp[results,results78,go_sem,M]) rfl ab.out
  | succ m =>
   have c6:((m+1:Nat):Int)>0:=by omega
   have V:=E8 B p kk wr a.rd (by omega);have g:=Ab a;have bh:=a.Slt;have ch:=a.gr.size;clear a;go_wp2_with (go_at_call 106;refine V.mono ?_)
   rintro e s ⟨b,bi,rfl,c7,U,P,⟨ag,ar⟩,cl,bj,au,bl⟩;obtain⟨N,O,bm⟩:=ag.1.ad;obtain⟨bk,bn,bv,C⟩:=b;simp only at ag ar cl bj au bm;subst bm;have cm:=Ab (show ∀q,El ⟨bk,bn,aA N q O,C⟩ from fun _=>bl);clear bl;have t:=g.out.grown P U;have c8:=P.size;have av:=(aR s.heap.size s).alloc (aN _) (aO #[.string bk,.string bn,aA N C.length O] 46);have G:=t.V av;have ah:=Ai s (aO #[.string bk,.string bn,aA N C.length O] 46);have ai:=Aa ah 0;have aj:=Aa ah 1;have ak:=Aa ah 2;have c5:=Aa G.box 0;simp only[aL,aF,aI]at ai aj ak c5;have bo:=Ab (ag.V av);have bp:=Ab ar;have cn:=Ab (show CO ⟨bk,bn,aA N C.length O,C⟩ from⟨by simp only;omega,bj,au⟩);have bq:=MB bk bn G.bin (by omega);have br:=Ab G;have da:(s.alloc (aO #[.string bk,.string bn,aA N C.length O] 46)).heap.size=s.heap.size+1:=by simp
   clear V g t G ag ar au U P av ah c0;generalize co:C.length=nl at *;clear co;generalize bt:s.alloc (aO #[.string bk,.string bn,aA N nl O] 46)=b7 at *;go_wp2_with (go_at_call 52;(try rw[bt]);refine bq.mono ?_)
   first|rintro e cp bu E|rintro e cp ⟨bu,E⟩
   have bw:=br.out.V E;have bx:=(E.cell (aM _ _ ai)).trans ai;have bz:=(E.cell (aM _ _ aj)).trans aj;have b0:=(E.cell (aM _ _ ak)).trans ak;have b1:=(E.cell (aM _ _ c5)).trans c5;have db:=E.size;have b2:=Ab (bo.out.V E);have F:=Ab bw;clear bq br bo ai aj ak c5 bw bt;rcases bu with ⟨_,rfl⟩|⟨D,x,T,_,_,rfl⟩
   ·have H:=BT (x:=⟨bk,bn,aA N nl O,C⟩) F.out.bin (by omega) b2.out;go_wp2_with (go_at_call 54;refine H.mono ?_)
    rintro e cf ⟨I,J,L,X,rfl,j,Y⟩;have aw:=F.out.V Y;have ae:=aw.box;have af:=Ab (aw.put (v':=aA I J L) (bs':=X) j.2.2.2.1 (fun q aq=>j.2.2.2.2 q (by omega) (F.out.abv q aq) (bp.out q (by omega))) (j.2.2.2.2 _ (by omega) F.out.farS (bp.out _ bh)) (fun y c=>by
     rcases j.2.2.1 y c with rfl|c
     ·exact cn.out
     ·exact F.out.ah y c) (fun y c=>by
     rcases j.2.2.1 y c with rfl|c
     ·exact cm.out _
     ·exact F.out.smk y c))
    have ci:=j.2.1;clear H j aw F b2 bx bz b0 b1;go_wp2_with (with_reducible show cL _ _ _ (bX _ (bU _ (bN 3) _) _ _ _ _::_) _ _;refine bG rfl 25 _ _ rfl (w.heap.size+1) #[aA I J L] ?_ ?_ 25 _ ae ?_ ?_ ?_ ?_)
    all_goals (first|rfl|kernel_rfl|exact Bg|skip)
    go_roundw;case rel=>exact⟨m,bi,aA I J L,X,by go_num,by omega,by omega,by omega,af.out⟩
    case measure=>simp[intOf]
   ·have bc:¬((D.length:Int)<0):=by omega
    clear bx bz b0 b1;go_wp2;go_roundw;case rel=>exact⟨m,bi,_,bs,by go_num,by omega,by omega,by omega,F.out⟩
    case measure=>simp[intOf]
def Wk(x:LAt):Prop:=x.key.size<=20/\x.ws.length<=3/\∀y∈x.ws,y.length<=300
def QE(kind name:ByteArray)(ls:List LAt):Prop:=kind.size<=20/\name.size<=30/\ls.length<=11/\∀x∈ls,Wk x
def Cz(b:BAt):Prop:=QE b.aa b.name b.ls
theorem Cz.ac{b:BAt}(h:Cz b):Aj b.ls:=⟨aP h.2.2.1 (by decide),fun x a=>⟨aP (h.2.2.2 x a).2.1 (by decide),fun y c=>aP ((h.2.2.2 x a).2.2 y c) (by decide)⟩⟩
theorem Er(c:bs.length<=1048576)(h:∀b∈bs,Cz b):A3 bs:=⟨c,fun b a=>⟨aP (h b a).2.1 (by decide),(h b a).ac⟩⟩
theorem CO.t{b:BAt}(h:CO b)(c:El b):Cz b:=⟨c.1,h.1,aP h.2.1 (by decide),fun x a=>⟨c.2 x a,(h.2.2 x a).1,fun y d=>aP ((h.2.2 x a).2 y d) (by decide)⟩⟩
theorem Cz.same{b c:BAt}(h:Cz b)(e:c.I=b.I):Cz c:=by
 obtain⟨bk,bn,bv,d⟩:=b;obtain⟨j,k,l,m⟩:=c;simp only[BAt.I,PBlock.mk.injEq]at e;obtain⟨rfl,rfl,e⟩:=e;refine⟨h.1,h.2.1,?_,fun x f=>?_⟩
 ·have:=congrArg bQ e;simp only[List.length_map]at this;have:=h.2.2.1;simp only at this⊢;omega
 ·have g:x.I∈d.map LAt.I:=by rw[<-e];exact aT f
  obtain⟨y,i,a⟩:=bH.1 g;have:=h.2.2.2 y i;simp only[LAt.I,PLine.mk.injEq]at a;unfold Wk at *;rw[a.1,a.2]at this;exact this
theorem Hr{cs:List BAt}(h:∀b∈bs,Cz b)(e:cs.map BAt.I=bs.map BAt.I):∀c∈cs,Cz c:=fun c a=>by
 have d:c.I∈bs.map BAt.I:=by rw[<-e];exact aT a
 obtain⟨b,f,g⟩:=bH.1 d;exact(h b f).same g.symm
variable {c q X Y g n:Nat}{ls:List LAt}{D T:List BAt}{y:BAt}{bk bn bk' bn':ByteArray}{bv:Value}{w':World}
theorem XP(B p k:Nat)(w:World)(h:Rd B w p k)(i:k<=1000000):Calls prog 44 #[aD (aB ⟨p,0,aC⟩),.int .i64 0] w fun e w'=>e=aX (.int .i64 0)/\Rd B w' p (k+1)/\w.grownBy w' (aB p):=by
 have c:=h.step;obtain⟨j,a,d,f,b,l,g⟩:=h;have c0:w.cell? ⟨p,0,aC⟩=aB (aA a d f):=by rw[cJ b];rfl
 have m:w.cell? ⟨p,1,aC⟩=aB (.int .i64 (k:Int)):=by rw[cJ b];rfl
 have n:w.frozen? ⟨p,1,aC⟩=false:=Lib.frozen_of_heap b 1;clear g;go_enter func44,ntmps44;go_wp2;go_ret;exact⟨rfl,c.1,c.2⟩
def Acl(n B p k:Nat)(w:World)(e:cE)(w':World):Prop:=∃x:Nat,(x<n\/n=0/\x=0)/\e=aX (.int .i64 (x:Int))/\Rd B w' p (k+1)/\w.grownBy w' (aB p)
theorem T9(B p k n:Nat)(w:World)(h:Rd B w p k)(c:n<=1000)(b:k<=1000000):Calls prog 44 #[aD (aB ⟨p,0,aC⟩),.int .i64 (n:Int)] w fun e w'=>Acl n B p k w e w':=by
 by_cases d:n=0
 ·subst d;refine(XP B p k w h b).mono ?_;rintro e w' ⟨rfl,h1,a⟩;exact⟨0,.inr ⟨rfl,rfl⟩,rfl,h1,a⟩
 ·refine(A1 B p k n w h (by omega) c b).mono ?_;rintro e w' ⟨x,f,rfl,h1,a⟩;exact⟨x,.inl f,rfl,h1,a⟩
def E9(name:ByteArray)(ls:List LAt):Prop:=name.size<=1048576/\Aj ls
theorem CO.x{b:BAt}(h:CO b):E9 b.name b.ls:=⟨aP h.1 (by decide),h.ac⟩
def CH(c:Nat)(a:List Nat)(W:World)(v:Value)(ls:List LAt):Prop:=Ap W v ls/\(∀q∈a,Aw q v ls)/\∀q,q<c->Aw q v ls
theorem CH.grown{b:List Nat}(h:CH c b W v ls)(d:W.grownBy W' (aB q))(a:q<c\/q∈b):CH c b W' v ls:=⟨h.1.aj (by rcases a with a|a;exact h.2.2 q a;exact h.2.1 q a) d,h.2⟩
theorem CH.V{a:List Nat}(h:CH c a W v ls)(b:Below W.heap.size W W'):CH c a W' v ls:=⟨h.1.V b,h.2⟩
structure Fh(B p c X Y:Nat)(w1:World)(D T:List BAt)(y:BAt)(g n cap kk:Nat)(bk bn:ByteArray)(bv:Value)(ls:List LAt)(W:World):Prop where
 rd:Rd B W p kk
 gr:w1.grownBy W (aB p)
 plt:p<c
 cw:c=w1.heap.size
 xb:W.heap[X]?=aB (aO #[aA (aB ⟨g,0,aC⟩) n cap] 25 (0,0))
 yb:W.heap[Y]?=aB (aO #[.string bk,.string bn,bv] 46 (0,0))
 cX:c<=X
 cY:c<=Y
 XY:X≠Y
 gX:g≠X
 gY:g≠Y
 row:W.ownsRow c 46 3 (aA (aB ⟨g,0,aC⟩) n cap) n ((D++y::T).flatMap BAt.cells)
 len:(D++y::T).length=n
 few:n<=62
 oth:∀x∈D++T,CH c [g,X,Y] W x.v x.ls/\Cz x
 mine:CH c [g,X,Y] W bv ls/\QE bk bn ls
theorem Fh.V{cap:Nat}(h:Fh B p c X Y w1 D T y g n cap kk bk bn bv ls W)(a:Below W.heap.size W W'):Fh B p c X Y w1 D T y g n cap kk bk bn bv ls W' :=
 ⟨h.rd.V a,Ah h.gr (Ar a _),h.plt,h.cw,(a.block X (aG.1 h.xb).1).trans h.xb,(a.block Y (aG.1 h.yb).1).trans h.yb,h.cX,h.cY,h.XY,h.gX,h.gY,AI h.row a,h.len,h.few,fun x b=>⟨(h.oth x b).1.V a,(h.oth x b).2⟩,h.mine.1.V a,h.mine.2⟩
theorem Fh.grown{cap:Nat}(h:Fh B p c X Y w1 D T y g n cap kk bk bn bv ls W)(a:W.grownBy W' (aB p))(d:Rd B W' p kk'):Fh B p c X Y w1 D T y g n cap kk' bk bn bv ls W':=by
 have e:p<X:=aQ h.plt h.cX;have f:p<Y:=aQ h.plt h.cY;exact⟨d,Ah h.gr a,h.plt,h.cw,BY.grown a X _ e h.xb,BY.grown a Y _ f h.yb,h.cX,h.cY,h.XY,h.gX,h.gY,H0 h.row a h.plt,h.len,h.few,fun x b=>⟨(h.oth x b).1.grown a (.inl h.plt),(h.oth x b).2⟩,h.mine.1.grown a (.inl h.plt),h.mine.2⟩
theorem Fh.head{cap:Nat}(h:Fh B p c X Y w1 D T y g n cap kk bk bn bv ls W)(j:W'.heap[Y]?=aB (aO #[.string bk',.string bn',bv] 46 (0,0)))(d:bk'.size<=20/\bn'.size<=30)(a:W.grownBy W' (aB Y)):Fh B p c X Y w1 D T y g n cap kk bk' bn' bv ls W':=by
 have k:X<W.heap.size:=(aG.1 h.xb).1;have o:=(h.row.lt g rfl).1;refine⟨AJ.rd h.rd (AJ.ag (S:=[Y]) a (fun q l=>by cases l;simp)) (fun i b=>by rw[aK.1 b];have:=h.cY;have:=h.plt;omega),⟨a.os.trans h.gr.os,a.tape.trans h.gr.tape,a.output.trans h.gr.output,aP h.gr.size a.size,fun i b m=>?_⟩,h.plt,h.cw,?_,j,h.cX,h.cY,h.XY,h.gX,h.gY,bF h.row a (.inr (fun e=>by cases e;exact h.gY rfl)),h.len,h.few,fun x f=>⟨(h.oth x f).1.grown a (.inr (by simp)),(h.oth x f).2⟩,⟨h.mine.1.grown a (.inr (by simp)),d.1,d.2,h.mine.2.2.2⟩⟩
 ·have r:=h.cY;have s:=h.cw;have:=h.gr.size;rw[a.block i (by omega) (by intro e;cases e;omega)];exact h.gr.block i b m
 ·rw[a.block X k (by intro e;cases e;exact h.XY rfl)];exact h.xb
theorem Fh.push{z:BAt}{g' cap cap':Nat}(h:Fh B p c X Y w1 D T y g n cap kk bk bn bv ls W)(a:W.grownBy W' (aB g))(r:W'.ownsRow c 46 3 (aA (aB ⟨g',0,aC⟩) (n+1) cap') (n+1) ((D++y::(T++[z])).flatMap BAt.cells))(m:CH c [g,X,Y] W z.v z.ls/\Cz z)(s:g'=g\/W.heap.size<=g')(o:g'≠X)(t:g'≠Y)(u:n+1<=62):
  Fh B p c X Y w1 D (T++[z]) y g' (n+1) cap' kk bk bn bv ls (W'.setCell ⟨X,0,aC⟩ (aA (aB ⟨g',0,aC⟩) (n+1) cap')):=by
 have w:X<W.heap.size:=(aG.1 h.xb).1;have A:Y<W.heap.size:=(aG.1 h.yb).1;have H:=(h.row.lt g rfl).1;have I:=h.cX;have J:=h.cw;have K:=h.gr.size;have L:=a.size;have M:=h.plt;have b:W'.grownBy (W'.setCell ⟨X,0,aC⟩ (aA (aB ⟨g',0,aC⟩) (n+1) cap')) (aB X):=⟨rfl,rfl,rfl,by simp,fun i _ d=>cN W' ⟨X,0,aC⟩ i _ (fun e=>d (by simp[e]))⟩;have C:W'.heap[X]?=aB (aO #[aA (aB ⟨g,0,aC⟩) n cap] 25 (0,0)):=(a.block X w (by intro e;cases e;exact h.gX rfl)).trans h.xb;have E:W'.heap[Y]?=aB (aO #[.string bk,.string bn,bv] 46 (0,0)):=(a.block Y A (by intro e;cases e;exact h.gY rfl)).trans h.yb;have l:∀ {v:Value} {ls:List LAt},CH c [g,X,Y] W v ls->CH c [g',X,Y] (W'.setCell ⟨X,0,aC⟩ (aA (aB ⟨g',0,aC⟩) (n+1) cap')) v ls:=fun {v ls} j=>by
  refine⟨((j.grown a (.inr (by simp))).grown b (.inr (by simp))).1,fun q k=>?_,j.2.2⟩;simp only[aS,aY,or_false]at k;rcases k with rfl|rfl|rfl
  ·rcases s with e|e
   ·rw[e];exact j.2.1 g (by simp)
   ·exact j.1.fresh e
  ·exact j.2.1 _ (by simp)
  ·exact j.2.1 _ (by simp)
 refine⟨?_,⟨b.os.trans (a.os.trans h.gr.os),b.tape.trans (a.tape.trans h.gr.tape),b.output.trans (a.output.trans h.gr.output),by have:=b.size;omega,fun i d F=>?_⟩,h.plt,h.cw,?_,?_,h.cX,h.cY,h.XY,o,t,?_,?_,u,fun x f=>?_,l h.mine.1,h.mine.2⟩
 ·have G:=AJ.rd h.rd (AJ.ag (S:=[g]) a (fun q k=>by cases k;simp)) (fun i d=>by rw[aK.1 d];omega);exact AJ.rd G (AJ.ag (S:=[X]) b (fun q k=>by cases k;simp)) (fun i d=>by rw[aK.1 d];omega)
 ·rw[b.block i (by omega) (by intro e;cases e;omega),a.block i (by omega) (by intro e;cases e;omega)];exact h.gr.block i d F
 ·rw[cP W' X 0 _ _ _ C];rfl
 ·rw[b.block Y (by omega) (by intro e;cases e;exact h.XY rfl)];exact E
 ·exact bF r b (.inr (fun e=>by cases e;exact o rfl))
 ·have:=h.len;simp at this⊢;omega
 ·rw[<-List.append_assoc]at f;rcases bC.1 f with f|f
  ·exact⟨l (h.oth x f).1,(h.oth x f).2⟩
  ·rw[aK.1 f];exact⟨l m.1,m.2⟩
theorem Fh.ac{l:Nat}{cap:Nat}(h:Fh B p c X Y w1 D T y g n cap kk bk bn y.v y.ls W)(d:Ax c W' (aA (aB ⟨g,0,aC⟩) n cap) (D++{ y with ls:=ls' }::T))(a:W.grownBy W' (aB l))(A:c<=l)(k:l≠X)(m:l≠Y)(o:(∀q∈[g,X,Y],Aw q y.v ls')/\∀q,q<c->Aw q y.v ls')(r:QE bk bn ls'):Fh B p c X Y w1 D T y g n cap kk bk bn y.v ls' W':=by
 have s:X<W.heap.size:=(aG.1 h.xb).1;have t:Y<W.heap.size:=(aG.1 h.yb).1;have C:=h.cw;have E:=h.gr.size;have F:=h.plt;have j:=d.row;have u:(D++{ y with ls:=ls' }::T).length=n:=by rw[<-h.len];simp
 have v:(D++{ y with ls:=ls' }::T).flatMap BAt.cells=(D++y::T).flatMap BAt.cells:=by simp[BAt.cells]
 rw[u,v]at j;refine⟨AJ.rd h.rd (AJ.ag (S:=[l]) a (fun q w=>by cases w;simp)) (fun i f=>by rw[aK.1 f];omega),⟨a.os.trans h.gr.os,a.tape.trans h.gr.tape,a.output.trans h.gr.output,aP h.gr.size a.size,fun i f z=>?_⟩,h.plt,h.cw,(a.block X s (by intro e;cases e;exact k rfl)).trans h.xb,(a.block Y t (by intro e;cases e;exact m rfl)).trans h.yb,h.cX,h.cY,h.XY,h.gX,h.gY,j,h.len,h.few,fun x b=>⟨⟨(d.ac x ?_).lin,(h.oth x b).1.2⟩,(h.oth x b).2⟩,⟨(d.ac { y with ls:=ls' } (by simp)).lin,o⟩,r⟩
 ·rw[a.block i (by omega) (by intro e;cases e;omega)];exact h.gr.block i f z
 ·simp only[bC,aS]at b⊢;rcases b with b|b
  ·exact .inl b
  ·exact .inr (.inr b)
def Kt(d B p k:Nat)(w:World)(e:cE)(w':World):Prop:=∃(a:Option Addr) (n c:Nat) (bs:List BAt) (k':Nat),e=aX (bI #[aA a n c])/\k'<=k+d/\Rd B w' p k'/\w.grownBy w' (aB p)/\Au w' (aA a n c) bs/\(A3 bs/\bs.length<=62)/\∀q,q<w.heap.size->A7 q (aA a n c) bs
def Ec(d B p k:Nat)(w:World)(e:cE)(w':World):Prop:=∃(a:Option Addr) (n c:Nat) (bs:List BAt) (k':Nat),e=aX (bI #[aA a n c])/\k'<=k+d/\Rd B w' p k'/\w.grownBy w' (aB p)/\Au w' (aA a n c) bs/\((∀b∈bs,Cz b)/\bs.length<=62)/\∀q,q<w.heap.size->A7 q (aA a n c) bs
theorem Ec.weak{e:cE}(h:Ec d B p k w e w'):Kt d B p k w e w':=by
 obtain⟨a,n,c,bs,k',h1,f,g,i,j,b,l⟩:=h;exact⟨a,n,c,bs,k',h1,f,g,i,j,⟨Er (aP b.2 (by decide)) b.1,b.2⟩,l⟩
theorem Fh.out{cap:Nat}(h:Fh B p c X Y w1 D T y g n cap kk bk bn bv ls W)(F:c=w.heap.size+2)(l:w.grownBy w1 (aB p))(u:kk<=k+d)(G:p<w.heap.size)(cs:Array Value):Ec d B p k w (aX (bI #[aA (aB ⟨g,0,aC⟩) n cap])) ((W.setCells g (D.length*3) [.string bk,.string bn,bv]).setRow (w.heap.size+1) cs)/\(W.setCells g (D.length*3) [.string bk,.string bn,bv]).heap[X]?=W.heap[X]?/\W.there g (D.length*3) 3/\(W.setCells g (D.length*3) [.string bk,.string bn,bv]).heap[w.heap.size+1]?=W.heap[w.heap.size+1]?:=by
 have H:=h.row.lt g rfl;have v:X<W.heap.size:=(aG.1 h.xb).1;have I:=h.gr.size;have J:=h.cw;obtain⟨ys,s,b,z⟩:=DW [.string bk,.string bn,bv] (D.length*3) W _ h.row;have A:=z (D.flatMap BAt.cells) y.cells (T.flatMap BAt.cells) (by simp) (Bs _ 3 BAt.len D) (by rw[BAt.len];rfl);rw[A]at s;have f:=Br (W.setCells g (D.length*3) [.string bk,.string bn,bv]) (w.heap.size+1) cs;have o:(D++(⟨bk,bn,bv,ls⟩:BAt)::T).length=n:=by rw[<-h.len];simp
 have r:∀x∈D++(⟨bk,bn,bv,ls⟩:BAt)::T,CH c [g,X,Y] W x.v x.ls/\Cz x:=by
  intro x a;simp only[bC,aS]at a;rcases a with a|rfl|a
  ·exact h.oth x (by simp[a])
  ·exact h.mine
  ·exact h.oth x (by simp[a])
 have C:Au ((W.setCells g (D.length*3) [.string bk,.string bn,bv]).setRow (w.heap.size+1) cs) (aA (aB ⟨g,0,aC⟩) n cap) (D++(⟨bk,bn,bv,ls⟩:BAt)::T):=by
  refine⟨?_,fun x a=>?_⟩
  ·rw[o];have:=AF (Gq s (w.heap.size+1) (by omega) cs);simpa [BAt.cells] using this
  ·exact(((r x a).1.grown b (.inr (by simp))).grown f (.inl (by omega))).1
 refine⟨⟨_,n,cap,D++(⟨bk,bn,bv,ls⟩:BAt)::T,kk,rfl,u,?_,⟨?_,?_,?_,?_,fun i j t=>?_⟩,C,⟨fun x a=>(r x a).2,by rw[o];exact h.few⟩,fun q m=>⟨?_,fun x a=>(r x a).1.2.2 q (by omega)⟩⟩,?_,EO h.row _ _ ?_,?_⟩
 ·have E:=AJ.rd h.rd (AJ.ag (S:=[g]) b (fun q m=>by cases m;simp)) (fun i j=>by rw[aK.1 j];omega);exact AJ.rd E (AJ.ag (S:=[w.heap.size+1]) f (fun q m=>by cases m;simp)) (fun i j=>by rw[aK.1 j];omega)
 ·exact(f.os.trans b.os).trans (h.gr.os.trans l.os)
 ·exact(f.tape.trans b.tape).trans (h.gr.tape.trans l.tape)
 ·exact(f.output.trans b.output).trans (h.gr.output.trans l.output)
 ·have:=f.size;have:=b.size;omega
 ·rw[f.block i (by have:=b.size;omega) (by intro e;cases e;omega),b.block i (by omega) (by intro e;cases e;omega),h.gr.block i (by omega) t];exact l.block i j t
 ·rw[o];exact Bx.above h.row (by omega)
 ·exact b.block X v (by intro e;cases e;exact h.gX rfl)
 ·have:D.length+1<=n:=by rw[<-h.len];simp
  omega
 ·exact b.block (w.heap.size+1) (by omega) (by intro e;cases e;omega)
variable {α:Type}{m nl yc nw wc nI i base:Nat}{yk yn xk:ByteArray}{E:List LAt}{bv' lv:Value}{J:Nat -> World -> Prop}{e:TypeId}{xs:List Value}
theorem Aw.same(h:Aw q v ls)(a:ls'.length=ls.length)(b:∀x∈ls',∃y∈ls,x.v=y.v/\x.ws.length=y.ws.length):Aw q v ls':=by
 refine⟨by rw[a];exact h.1,fun x c=>?_⟩;obtain⟨y,d,e,f⟩:=b x c;rw[e,f];exact h.2 y d
theorem Es(W:World)(g j:Nat)(u:Value):W.grownBy (W.setCell ⟨g,j,aC⟩ u) (aB g):=⟨rfl,rfl,rfl,by simp,fun i _ a=>cN W ⟨g,j,aC⟩ i _ (fun e=>a (by simp[e]))⟩
theorem mem_mid{A E:List α}{x a z:α}(h:z∈A++a::E):z=a\/z∈A++x::E:=by
 simp only[bC,aS]at h⊢;rcases h with h|h|h
 ·exact .inr (.inl h)
 ·exact .inl h
 ·exact .inr (.inr (.inr h))
theorem EP{l a:Nat}(h:Bx q (aA (aB ⟨l,0,aC⟩) m a) n)(b:0<n):l≠q:=by
 rcases h with h|h
 ·omega
 ·exact h l 0 m a rfl
theorem Fh.key{l:Nat}{A:List LAt}{x:LAt}{cap:Nat}(h:Fh B p c X Y w1 D T ⟨yk,yn,aA (aB ⟨l,0,aC⟩) nl yc,A++x::E⟩ g n cap kk bk bn (aA (aB ⟨l,0,aC⟩) nl yc) (A++x::E) W)(f:Ax c W (aA (aB ⟨g,0,aC⟩) n cap) (D++⟨yk,yn,aA (aB ⟨l,0,aC⟩) nl yc,A++x::E⟩::T))(i:(A++x::E).length=nl)(u:ByteArray)(j:u.size<=20):
  Fh B p c X Y w1 D T ⟨yk,yn,aA (aB ⟨l,0,aC⟩) nl yc,A++x::E⟩ g n cap kk bk bn (aA (aB ⟨l,0,aC⟩) nl yc) (A++{ x with key:=u }::E) (W.setCell ⟨l,A.length*2,aC⟩ (.string u)):=by
 have k:0<(A++x::E).length:=by simp;omega
 have d:∀q,Aw q (aA (aB ⟨l,0,aC⟩) nl yc) (A++x::E)->l≠q/\Aw q (aA (aB ⟨l,0,aC⟩) nl yc) (A++{ x with key:=u }::E):=fun q b=>by
  refine⟨EP b.1 k,b.same (by simp) fun e a=>?_⟩;rcases mem_mid (x:=x) a with rfl|a
  ·exact⟨x,by simp,rfl,rfl⟩
  ·exact⟨e,a,rfl,rfl⟩
 have m:=f.bm.ac.set i 0 (.string u) { x with key:=u } (by decide) rfl rfl;have o:=(BM.back (r:=⟨yk,yn,aA (aB ⟨l,0,aC⟩) nl yc,A++x::E⟩) m).own;have s:=(f.ac _ (show (⟨yk,yn,aA (aB ⟨l,0,aC⟩) nl yc,A++x::E⟩:BAt)∈D++⟨yk,yn,aA (aB ⟨l,0,aC⟩) nl yc,A++x::E⟩::T by simp)).row.lt l rfl;refine Fh.ac (l:=l) h o (Es W l _ _) s.1 (d X (h.mine.1.2.1 X (by simp))).1 (d Y (h.mine.1.2.1 Y (by simp))).1 ⟨fun q b=>(d q (h.mine.1.2.1 q b)).2,fun q b=>(d q (h.mine.1.2.2 q b)).2⟩ ⟨h.mine.2.1,h.mine.2.2.1,by have:=h.mine.2.2.2.1;simp only[bK,bM]at this⊢;exact this,fun e a=>?_⟩;rcases mem_mid (x:=x) a with rfl|a
 ·exact⟨j,(h.mine.2.2.2.2 x (by simp)).2⟩
 ·exact h.mine.2.2.2.2 e a
theorem Fh.word{l r:Nat}{key:ByteArray}{A:List LAt}{s:List UInt8}{b:List (List UInt8)}{cap:Nat}(h:Fh B p c X Y w1 D T ⟨yk,yn,aA (aB ⟨l,0,aC⟩) nl yc,A++⟨key,aA (aB ⟨r,0,aC⟩) nw wc,s::b⟩::E⟩ g n cap kk bk bn (aA (aB ⟨l,0,aC⟩) nl yc) (A++⟨key,aA (aB ⟨r,0,aC⟩) nw wc,s::b⟩::E) W)(z:Ax c W (aA (aB ⟨g,0,aC⟩) n cap) (D++⟨yk,yn,aA (aB ⟨l,0,aC⟩) nl yc,A++⟨key,aA (aB ⟨r,0,aC⟩) nw wc,s::b⟩::E⟩::T))(t:ByteArray)(I:t.size<=201):
  Fh B p c X Y w1 D T ⟨yk,yn,aA (aB ⟨l,0,aC⟩) nl yc,A++⟨key,aA (aB ⟨r,0,aC⟩) nw wc,s::b⟩::E⟩ g n cap kk bk bn (aA (aB ⟨l,0,aC⟩) nl yc) (A++⟨key,aA (aB ⟨r,0,aC⟩) nw wc,t.data.toList::b⟩::E) (W.setCell ⟨r,0,aC⟩ (.string t)):=by
 have v:=z.bm.ac;have i:W.ownsRow c 9 1 (aA (aB ⟨r,0,aC⟩) nw wc) (s::b).length (strs (s::b)):=v.words;have w:(s::b).length=nw:=by
  obtain⟨a,J,e,_⟩:=Al i;cases e
  rfl
 have C:=i.lt r rfl;rw[w]at i;have k:=i.stored 0 (.string t);have F:(strs (s::b)).set 0 (.string t)=strs (t.data.toList::b):=by simp[strs]
 rw[F]at k;have j:∀q,Aw q (aA (aB ⟨l,0,aC⟩) nl yc) (A++⟨key,aA (aB ⟨r,0,aC⟩) nw wc,s::b⟩::E)->r≠q/\Aw q (aA (aB ⟨l,0,aC⟩) nl yc) (A++⟨key,aA (aB ⟨r,0,aC⟩) nw wc,t.data.toList::b⟩::E):=fun q f=>by
  refine⟨EP (f.2 ⟨key,aA (aB ⟨r,0,aC⟩) nw wc,s::b⟩ (by simp)) (by simp),f.same (by simp) fun m d=>?_⟩;rcases mem_mid (x:=⟨key,aA (aB ⟨r,0,aC⟩) nw wc,s::b⟩) d with rfl|d
  ·exact⟨⟨key,aA (aB ⟨r,0,aC⟩) nw wc,s::b⟩,by simp,rfl,by simp⟩
  ·exact⟨m,d,rfl,rfl⟩
 have G:=v.turn (w':=W.setCell ⟨r,0,aC⟩ (.string t)) (t.data.toList::b) (by simp) (by rw[show (⟨key,aA (aB ⟨r,0,aC⟩) nw wc,s::b⟩:LAt).ws.length=nw from w];exact k.1) k.2;have H:=(BM.back (r:=⟨yk,yn,aA (aB ⟨l,0,aC⟩) nl yc,A++⟨key,aA (aB ⟨r,0,aC⟩) nw wc,s::b⟩::E⟩) G).own;refine Fh.ac (l:=r) h H (Es W r _ _) C.1 (j X (h.mine.1.2.1 X (by simp))).1 (j Y (h.mine.1.2.1 Y (by simp))).1 ⟨fun q f=>(j q (h.mine.1.2.1 q f)).2,fun q f=>(j q (h.mine.1.2.2 q f)).2⟩ ⟨h.mine.2.1,h.mine.2.2.1,by have:=h.mine.2.2.2.1;simp only[bK,bM]at this⊢;exact this,fun m d=>?_⟩;rcases mem_mid (x:=⟨key,aA (aB ⟨r,0,aC⟩) nw wc,s::b⟩) d with rfl|d
 ·have o:=h.mine.2.2.2.2 ⟨key,aA (aB ⟨r,0,aC⟩) nw wc,s::b⟩ (by simp);refine⟨o.1,by have:=o.2.1;simp only[bM]at this⊢;exact this,fun y u=>?_⟩;rcases aS.1 u with rfl|u
  ·have:t.data.toList.length=t.size:=rfl;omega
  ·exact o.2.2 y (bO _ u)
 ·exact h.mine.2.2.2.2 m d
theorem Fh.swap{l:Nat}{x0 x1:LAt}{cap:Nat}(h:Fh B p c X Y w1 D T ⟨yk,yn,aA (aB ⟨l,0,aC⟩) nl yc,x0::x1::E⟩ g n cap kk bk bn (aA (aB ⟨l,0,aC⟩) nl yc) (x0::x1::E) W)(f:Ax c W (aA (aB ⟨g,0,aC⟩) n cap) (D++⟨yk,yn,aA (aB ⟨l,0,aC⟩) nl yc,x0::x1::E⟩::T))(i:(x0::x1::E).length=nl):
  Fh B p c X Y w1 D T ⟨yk,yn,aA (aB ⟨l,0,aC⟩) nl yc,x0::x1::E⟩ g n cap kk bk bn (aA (aB ⟨l,0,aC⟩) nl yc) (x1::x0::E) ((W.setCells l 0 x1.cells).setCells l 2 x0.cells):=by
 have j:=f.bm.ac;obtain⟨ys,s,t,u⟩:=DW x1.cells 0 W _ (j.size i);have v:=u [] x0.cells ((x1::E).flatMap LAt.cells) (by simp) rfl rfl;obtain⟨w,k,z2,z3⟩:=DW x0.cells 2 _ _ s;have a:=z3 x1.cells x1.cells (E.flatMap LAt.cells) (by rw[v];simp) rfl rfl;have x:w=(x1::x0::E).flatMap LAt.cells:=by rw[a];simp
 rw[x]at k;have m:=Ah t z2;have y:Ay c W (⟨aA (aB ⟨l,0,aC⟩) nl yc,115,2,(x0::x1::E).length,(x0::x1::E).flatMap LAt.cells⟩::((x0::x1::E).map LAt.row++E6 (aA (aB ⟨g,0,aC⟩) n cap) D ⟨yk,yn,aA (aB ⟨l,0,aC⟩) nl yc,x0::x1::E⟩ T [])):=j;have z:=Ay.turn (r':=⟨aA (aB ⟨l,0,aC⟩) nl yc,115,2,(x0::x1::E).length,(x1::x0::E).flatMap LAt.cells⟩) y rfl (by show World.ownsRow _ _ _ _ _ _ _;rw[i];exact k) m
 have A:LM c ((W.setCells l 0 x1.cells).setCells l 2 x0.cells) (aA (aB ⟨l,0,aC⟩) nl yc) (x1::x0::E) (E6 (aA (aB ⟨g,0,aC⟩) n cap) D ⟨yk,yn,aA (aB ⟨l,0,aC⟩) nl yc,x0::x1::E⟩ T []) :=
  Ay.perm z (List.Perm.cons _ (List.Perm.append_right _ (List.Perm.map _ (List.Perm.swap _ _ _))))
 have C:=(BM.back (r:=⟨yk,yn,aA (aB ⟨l,0,aC⟩) nl yc,x0::x1::E⟩) A).own;have F:=(f.ac _ (show (⟨yk,yn,aA (aB ⟨l,0,aC⟩) nl yc,x0::x1::E⟩:BAt)∈D++⟨yk,yn,aA (aB ⟨l,0,aC⟩) nl yc,x0::x1::E⟩::T by simp)).row.lt l rfl;have o:∀b∈x1::x0::E,b∈x0::x1::E:=fun b a=>by
  simp only[aS]at a⊢;rcases a with a|a|a
  ·exact .inr (.inl a)
  ·exact .inl a
  ·exact .inr (.inr a)
 have e:∀q,Aw q (aA (aB ⟨l,0,aC⟩) nl yc) (x0::x1::E)->l≠q/\Aw q (aA (aB ⟨l,0,aC⟩) nl yc) (x1::x0::E):=fun q d=>⟨EP d.1 (by simp),d.same (by simp) fun b a=>⟨b,o b a,rfl,rfl⟩⟩
 exact Fh.ac (l:=l) h C m F.1 (e X (h.mine.1.2.1 X (by simp))).1 (e Y (h.mine.1.2.1 Y (by simp))).1 ⟨fun q d=>(e q (h.mine.1.2.1 q d)).2,fun q d=>(e q (h.mine.1.2.2 q d)).2⟩ ⟨h.mine.2.1,h.mine.2.2.1,by have:=h.mine.2.2.2.1;simp only[bM]at this⊢;exact this,fun b a=>h.mine.2.2.2.2 b (o b a)⟩
theorem Fh.lay{cap:Nat}(h:Fh B p c X Y w1 D T y g n cap kk bk bn bv ls W)(f:W'.heap[Y]?=aB (aO #[.string bk',.string bn',bv'] 46 (0,0)))(a:W.grownBy W' (aB Y))(j:CH c [g,X,Y] W' bv' ls'/\QE bk' bn' ls'):Fh B p c X Y w1 D T y g n cap kk bk' bn' bv' ls' W':=by
 have k:X<W.heap.size:=(aG.1 h.xb).1;refine⟨AJ.rd h.rd (AJ.ag (S:=[Y]) a (fun q l=>by cases l;simp)) (fun i b=>by rw[aK.1 b];have:=h.cY;have:=h.plt;omega),⟨a.os.trans h.gr.os,a.tape.trans h.gr.tape,a.output.trans h.gr.output,aP h.gr.size a.size,fun i b m=>?_⟩,h.plt,h.cw,?_,f,h.cX,h.cY,h.XY,h.gX,h.gY,bF h.row a (.inr (fun e=>by cases e;exact h.gY rfl)),h.len,h.few,fun x d=>⟨(h.oth x d).1.grown a (.inr (by simp)),(h.oth x d).2⟩,j⟩
 ·have o:=h.cY;have r:=h.cw;have:=h.gr.size;rw[a.block i (by omega) (by intro e;cases e;omega)];exact h.gr.block i b m
 ·rw[a.block X k (by intro e;cases e;exact h.XY rfl)];exact h.xb
theorem Fh.app{l:Nat}{cap:Nat}(h:Fh B p c X Y w1 D T y g n cap kk bk bn y.v y.ls W)(A:Ax c W (aA (aB ⟨g,0,aC⟩) n cap) (D++y::T))(o:y.v.ownBlock=aB l)(J:0<y.ls.length)(j:W.grownBy W' (aB l))(w:W'.ownsRow c 115 2 v' ls'.length (ls'.flatMap LAt.cells))(m:v'.ownBlock=aB l\/v'.ownBlock=aB W.heap.size)(z:∀x∈ls',x∈y.ls)(K:ls'.length<=11):
  Fh B p c X Y w1 D T y g n cap kk bk bn v' ls' (W'.setCell ⟨Y,2,aC⟩ v'):=by
 have L:X<W.heap.size:=(aG.1 h.xb).1;have M:Y<W.heap.size:=(aG.1 h.yb).1;have ac:=h.cw;have ad:=h.gr.size;have ae:=h.plt;have af:=h.cX;have ag:=h.cY;have C:Ay c W (⟨y.v,115,2,y.ls.length,y.ls.flatMap LAt.cells⟩::(y.ls.map LAt.row++E6 (aA (aB ⟨g,0,aC⟩) n cap) D y T [])):=A.bm.ac;have ah:=(Ay.lt C (cB ..) o);have E:=Ay.grow (r':=⟨v',115,2,ls'.length,ls'.flatMap LAt.cells⟩) C w (by rw[o];exact j) (by rw[o];exact m);have t:∀q,Bx q y.v y.ls.length->l≠q:=fun q a=>by
  rcases(A.ac y (by simp)).row.2 with ⟨e,ai⟩|⟨aj,ak,al,e,_⟩
  ·omega
  ·rw[e]at o a;cases o
   exact EP a J
 have N:l≠X:=t X (h.mine.1.2.1 X (by simp)).1;have O:l≠Y:=t Y (h.mine.1.2.1 Y (by simp)).1;have am:l≠g:=t g (h.mine.1.2.1 g (by simp)).1;have an:Ax c W' (aA (aB ⟨g,0,aC⟩) n cap) (D++{ y with v:=y.v,ls:=[] }::T)\/True:=.inr trivial;have d:=Es W' Y 2 v';have ao:=j.size;have F:∀r∈E6 (aA (aB ⟨g,0,aC⟩) n cap) D y T [],r.isAt c W':=fun r u=>E.1 r (by simp[u])
 have P:∀x∈y.ls,W'.ownsRow c 9 1 x.v x.ws.length (strs x.ws):=fun x b=>E.1 x.row (bO _ (List.mem_append_left _ (aT b)))
 have Q:∀x∈D++T,Ap W' x.v x.ls:=by
  intro x b;have G:∀r∈EF x.v x.ls,r.isAt c W':=fun r u=>F r (by
   unfold E6;simp only[bC,aS,List.mem_flatMap]at b⊢;rcases b with b|b
   ·exact .inl (.inr ⟨x,b,u⟩)
   ·exact .inr (.inl ⟨x,b,u⟩))
  exact⟨AF (G _ (cB ..)),fun f k=>AF (G f.row (bO _ (aT k)))⟩
 have R:W'.ownsRow c 46 3 (aA (aB ⟨g,0,aC⟩) n cap) n ((D++y::T).flatMap BAt.cells):=by
  have:=F ⟨aA (aB ⟨g,0,aC⟩) n cap,46,3,(D++y::T).length,(D++y::T).flatMap BAt.cells⟩ (by unfold E6;simp);rw[h.len]at this;exact this
 have U:W'.heap[Y]?=aB (aO #[.string bk,.string bn,y.v] 46 (0,0)):=(j.block Y M (by intro e;cases e;exact O rfl)).trans h.yb;have V:Ap W' v' ls':=⟨AF w,fun f k=>AF (P f (z f k))⟩;have H:∀q,q<W.heap.size->Aw q y.v y.ls->Aw q v' ls':=fun q a I=>by
  refine⟨Bx.of_own w ?_,fun f k=>I.2 f (z f k)⟩;intro e;rcases m with m|m
  ·rw[m]at e;exact t q I.1 (bD e)
  ·rw[m]at e;have:=bD e;omega
 have ap:=(h.row.lt g rfl).2;have Z:CH c [g,X,Y] W' v' ls':=⟨V,fun q a=>H q (by simp only[aS,aY,or_false]at a;rcases a with rfl|rfl|rfl <;> assumption) (h.mine.1.2.1 q a),fun q a=>H q (by omega) (h.mine.1.2.2 q a)⟩
 refine⟨?_,⟨d.os.trans (j.os.trans h.gr.os),d.tape.trans (j.tape.trans h.gr.tape),d.output.trans (j.output.trans h.gr.output),by have:=d.size;omega,fun i s aa=>?_⟩,h.plt,h.cw,?_,?_,h.cX,h.cY,h.XY,h.gX,h.gY,bF R d (.inr (fun e=>by cases e;exact h.gY rfl)),h.len,h.few,fun x b=>⟨CH.grown ⟨Q x b,(h.oth x b).1.2⟩ d (.inr (by simp)),(h.oth x b).2⟩,Z.grown d (.inr (by simp)),h.mine.2.1,h.mine.2.2.1,K,fun f k=>h.mine.2.2.2.2 f (z f k)⟩
 ·have ab:=AJ.rd h.rd (AJ.ag (S:=[l]) j (fun q a=>by cases a;simp)) (fun i s=>by rw[aK.1 s];omega);exact AJ.rd ab (AJ.ag (S:=[Y]) d (fun q a=>by cases a;simp)) (fun i s=>by rw[aK.1 s];omega)
 ·rw[d.block i (by omega) (by intro e;cases e;omega),j.block i (by omega) (by intro e;cases e;omega)];exact h.gr.block i s aa
 ·rw[d.block X (by omega) (by intro e;cases e;exact h.XY rfl),j.block X L (by intro e;cases e;exact N rfl)];exact h.xb
 ·rw[cP W' Y 2 _ _ _ U];rfl
def TD:List ByteArray:=[⟨#[]⟩,⟨#[105,109,97,103,101]⟩,⟨#[122,111,110,101]⟩]
theorem TE(u:ByteArray)(h:u∈TD):u.size<=20:=by
 simp only[TD,aS,aY,or_false]at h;rcases h with rfl|rfl|rfl <;> decide
def Ii(p Y l nI:Nat)(lv:Value)(i:Nat)(x:Value)(W:World):Prop:=match i with
 | 0=>x=aD (aB ⟨Y,2,aC⟩)
 | 1=>x=lv
 | 2=>x=.int .i64 (nI:Int)
 | 3=>∃t,x=aA (aB ⟨t,0,aC⟩) 3 3/\Hp p W t TD
 | 4=>x=aD (aB ⟨p,0,aC⟩)
 | 5=>∃y:Nat,y<3/\x=.int .i64 (y:Int)
 | 6=>∃t y:Nat,y<3/\x=aD (aB ⟨t,y,aC⟩)/\Hp p W t TD
 | 7=>∃u,x=.string u/\u.size<=20
 | 8=>x=aD (aB ⟨l,nI*2,aC⟩)
 | 9=>x=aD (aB ⟨l,nI*2,aC⟩)
 | _=>True
theorem Ii.af{l:Nat}(k:BY p W W'):∀(i:Nat) (x:Value),Ii p Y l nI lv i x W->Ii p Y l nI lv i x W':=by
 intro i x h;unfold Ii at *;split <;> simp only at h
 ·exact h
 ·exact h
 ·exact h
 ·obtain⟨t,e,a⟩:=h;exact⟨t,e,a.af k⟩
 ·exact h
 ·exact h
 ·obtain⟨t,y,b,e,a⟩:=h;exact⟨t,y,b,e,a.af k⟩
 ·exact h
 ·exact h
 ·exact h
 ·trivial
def TF(J:Nat->World->Prop)(m kk d:Nat)(L:Nat->Bool)(W:World):Prop:=∃k',k'<=kk+(if L m=true then d else 0)/\J k' W
theorem TF.af{L:Nat->Bool}(h:TF J m kk d L W)(a:i≠m)(b:∀k,J k W->J k W'):TF J m kk d (BN L i) W':=by
 obtain⟨k',c,h⟩:=h;refine⟨k',?_,b _ h⟩;simpa [BN,Ne.symm a] using c
theorem TF.get{L:Nat->Bool}(h:TF J m kk d L W):∃k',k'<=kk+d/\J k' W:=by
 obtain⟨k',a,h⟩:=h;exact⟨k',by split at a <;> omega,h⟩
def Afh(p Y l nI r nw wc:Nat)(lv:Value)(i:Nat)(x:Value):Prop:=match i with
 | 0=>x=aD (aB ⟨Y,2,aC⟩)
 | 1=>x=lv
 | 2=>x=.int .i64 (nI:Int)
 | 3=>x=aD (aB ⟨l,nI*2,aC⟩)
 | 4=>x=aD (aB ⟨l,nI*2+1,aC⟩)
 | 5=>x=aA (aB ⟨r,0,aC⟩) nw wc
 | 6=>x=aD (aB ⟨p,0,aC⟩)
 | 7=>∃t:ByteArray,t.size<=201/\x=.string t
 | 8=>x=aD (aB ⟨r,0,aC⟩)
 | _=>True
def TG(Y l nI nl yc:Nat)(xk:ByteArray)(b:Value)(J:Value->World->Prop)(i:Nat)(x:Value)(W:World):Prop:=match i with
 | 0=>x=aD (aB ⟨Y,2,aC⟩)
 | 1=>x=aA (aB ⟨l,0,aC⟩) nl yc
 | 2=>x=aD (aB ⟨Y,2,aC⟩)
 | 3=>x=aA (aB ⟨l,0,aC⟩) nl yc
 | 4=>x=.int .i64 (nI:Int)
 | 5=>x=aD (aB ⟨l,nI*2,aC⟩)
 | 6=>x=bI #[.string xk,b]
 | 7=>∃t,x=aA (aB ⟨t,0,aC⟩) 1 1/\l<t/\W.heap[t]?=aB (aO #[.string xk,b] 115 (0,0))
 | 8=>∃a c,x=aA (aB ⟨a,0,aC⟩) (nl+1) c/\J x W
 | 9=>x=aD (aB ⟨Y,2,aC⟩)
 | _=>True
theorem TG.af{l:Nat}{a:Value}{J:Value->World->Prop}(k:BY l W W'):∀(i:Nat) (x:Value),i≠8->TG Y l nI nl yc xk a J i x W->TG Y l nI nl yc xk a J i x W':=by
 intro i x c h;unfold TG at *;split <;> simp only at h
 ·exact h
 ·exact h
 ·exact h
 ·exact h
 ·exact h
 ·exact h
 ·exact h
 ·obtain⟨t,e,b,d⟩:=h;exact⟨t,e,b,k t _ b d⟩
 ·exact absurd rfl c
 ·exact h
 ·trivial
def Age(Y:Nat)(yk yn:ByteArray)(lv:Value)(J:World->Prop)(L:Nat->Bool)(W:World):Prop:=W.heap[Y]?=aB (aO #[.string yk,.string yn,lv] 46 (0,0))/\(L 8=false->J W)/\(L 8=true->L 7=true)/\(L 7=true->L 6=true)
def Ada(B p c X Y:Nat)(w1:World)(D:List BAt)(y:BAt)(a kk:Nat)(yk yn:ByteArray)(bv:Value)(b:List LAt)(i:Value)(W:World):Prop:=∃(j:Nat) (T:List BAt) (g d kk':Nat),i=.int .i64 (j:Int)/\a+j<=61/\kk'<=kk+j/\Fh B p c X Y w1 D T y g (a+j) d kk' yk yn bv b W
def Afi(p X g n cap:Nat)(i:Nat)(x:Value):Prop:=match i with
 | 0=>x=aD (aB ⟨X,0,aC⟩)
 | 1=>x=aA (aB ⟨g,0,aC⟩) n cap
 | 2=>x=.int .i64 (n:Int)
 | 3=>x=aD (aB ⟨p,0,aC⟩)
 | 4=>∃y:Nat,y<2/\x=.int .i64 (y:Int)
 | 5=>∃y:Nat,y<2/\x=.int .i64 (60+(y:Int))
 | 6=>∃b,x=.bool b/\(b=true->n<=60)
 | _=>True
theorem ZS(w:World)(c d:UInt8):(convert 22 9 (aA (aB ⟨w.heap.size,0,aC⟩) 2 2)).run prog (w.alloc (aO #[.int .u8 (c.toNat:Int),.int .u8 (d.toNat:Int)] 5))=.ok (.string ⟨#[c,d]⟩) (w.alloc (aO #[.int .u8 (c.toNat:Int),.int .u8 (d.toNat:Int)] 5)) :=
 FJ _ _ w.heap.size [c,d] 2 (bY w #[.int .u8 (c.toNat:Int),.int .u8 (d.toNat:Int)] 2 (aN _) (by decide) rfl)
theorem Ku{size:Nat}{a:Option Addr}(h:w.ownsRow base e size (aA a n c) m xs)(d:m≠0):∃l,a=aB ⟨l,0,aC⟩:=by
 obtain⟨a',g,f,b⟩:=Al h;cases f
 rcases b with b|b
 ·exact absurd b d
 ·exact b
theorem XQ(w:World)(o:Obj)(t:ByteArray):((w.alloc o).alloc (aO #[.string t] 9)).ownsRow w.heap.size 9 1 (aA (aB ⟨w.heap.size+1,0,aC⟩) 1 1) 1 (strs [t.data.toList]):=by
 have h:((w.alloc o).alloc (aO #[.string t] 9)).ownsRow (w.alloc o).heap.size 9 1 (aA (aB ⟨(w.alloc o).heap.size,0,aC⟩) 1 1) 1 [.string t]:=bY (w.alloc o) #[.string t] 1 (aN _) (by decide) rfl;rw[cF]at h;exact C3 h (by omega)
theorem TH(B:Nat)(w:World):A4 B w (aA aC 0 0) []:=Ay.own1 (World.ownsRow_nil _ _ _ _)
theorem V3(j:Nat)(h:j<=26):((cQ (97+j)).toNat:Int)=97+(j:Int):=by
 have:(cQ (97+j)).toNat=97+j:=by
  rw[UInt8.toNat_ofNat'];omega
 rw[this];omega
def Adb(c Y:Nat)(d:World)(yn:ByteArray)(i:Value)(W:World):Prop:=∃(j:Nat) (a:Option Addr) (b:Nat) (ls:List LAt),i=.int .i64 (j:Int)/\j<=11/\ls.length=j/\d.grownBy W (aB Y)/\W.heap[Y]?=aB (aO #[.string ⟨#[98,101,114,116,104]⟩,.string yn,aA a j b] 46 (0,0))/\A4 c W (aA a j b) ls/\∀x∈ls,x.key.size<=20/\x.ws.length<=1/\∀y∈x.ws,y.length<=2
theorem A4.farAll{a:Nat}(h:A4 a W v ls)(b:q<a):Aw q v ls:=⟨Bx.above h.row b,fun y c=>Bx.above (h.words y c) b⟩
variable {Q:Exit -> Act -> World -> Prop}{a:Act}
def QF: Oper := ⟨aB 95, .fieldAddr 46 (.tmp 7) 2, 0, "l8_draw.go:204", #[], aC⟩
def QG: Oper := ⟨aB 96, .load 44 (.tmp 95), 44, "l8_draw.go:204", #[⟨0, .data⟩], aC⟩
def QH: Oper := ⟨aB 97, .move (.tmp 8), 3, "l8_draw.go:204", #[], aC⟩
def V4: Oper := ⟨aB 98, .buildSlice 52 3 #[(0, .const (.string { data := #[] })), (1, .const (.string { data := #[105, 109, 97, 103, 101] })), (2, .const (.string { data := #[122, 111, 110, 101] }))], 52, "l8_draw.go:204", #[], aC⟩
def QI: Oper := ⟨aB 99, .move (.tmp 0), 65, "l8_draw.go:204", #[], aC⟩
def QJ: Oper := ⟨aB 100, .call { callee := .value (.func 44), args := #[.tmp 99, .const (.int .i64 3)], argTypes := #[65, 3] }, 3, "l8_draw.go:204", #[⟨4, .data⟩], aC⟩
def QK: Oper := ⟨aB 101, .indexAddr 52 (.tmp 98) (.tmp 100), 0, "l8_draw.go:204", #[⟨3, .data⟩, ⟨5, .data⟩], aC⟩
def QL: Oper := ⟨aB 102, .load 9 (.tmp 101), 9, "l8_draw.go:204", #[⟨6, .data⟩], aC⟩
def QM: Oper := ⟨aB 103, .indexAddr 44 (.tmp 96) (.tmp 97), 0, "l8_draw.go:204", #[⟨1, .data⟩, ⟨2, .data⟩, ⟨0, .phase⟩, ⟨1, .phase⟩, ⟨2, .phase⟩, ⟨3, .phase⟩, ⟨4, .phase⟩, ⟨5, .phase⟩, ⟨6, .phase⟩, ⟨7, .phase⟩], aC⟩
def QN: Oper := ⟨aB 104, .fieldAddr 115 (.tmp 103) 0, 0, "l8_draw.go:204", #[⟨8, .data⟩, ⟨0, .phase⟩, ⟨1, .phase⟩, ⟨2, .phase⟩, ⟨3, .phase⟩, ⟨4, .phase⟩, ⟨5, .phase⟩, ⟨6, .phase⟩, ⟨7, .phase⟩], aC⟩
def L6: Oper := ⟨aC, .store 9 (.tmp 104) (.tmp 102), 0, "l8_draw.go:204", #[⟨9, .data⟩, ⟨7, .data⟩, ⟨5, .chain⟩, ⟨0, .phase⟩, ⟨1, .phase⟩, ⟨2, .phase⟩, ⟨3, .phase⟩, ⟨4, .phase⟩, ⟨5, .phase⟩, ⟨6, .phase⟩, ⟨7, .phase⟩], aC⟩
def Afj:List Oper:=[QF,QG,QH,V4,QI,QJ,QK,QL,QM,QN,L6]
def QO: Oper := ⟨aB 121, .fieldAddr 46 (.tmp 7) 2, 0, "l8_draw.go:208", #[], aC⟩
def QP: Oper := ⟨aB 122, .load 44 (.tmp 121), 44, "l8_draw.go:208", #[⟨0, .data⟩], aC⟩
def QQ: Oper := ⟨aB 123, .move (.tmp 8), 3, "l8_draw.go:208", #[], aC⟩
def QR: Oper := ⟨aB 124, .indexAddr 44 (.tmp 122) (.tmp 123), 0, "l8_draw.go:208", #[⟨1, .data⟩, ⟨2, .data⟩], aC⟩
def QS: Oper := ⟨aB 125, .fieldAddr 115 (.tmp 124) 1, 0, "l8_draw.go:208", #[⟨3, .data⟩], aC⟩
def QT: Oper := ⟨aB 126, .load 52 (.tmp 125), 52, "l8_draw.go:208", #[⟨4, .data⟩], aC⟩
def QU: Oper := ⟨aB 127, .move (.tmp 0), 65, "l8_draw.go:208", #[], aC⟩
def QV: Oper := ⟨aB 128, .call { callee := .value (.func 164), args := #[.tmp 127], argTypes := #[65] }, 9, "l8_draw.go:208", #[⟨6, .data⟩], aC⟩
def QW: Oper := ⟨aB 129, .indexAddr 52 (.tmp 126) (.const (.int .i64 0)), 0, "l8_draw.go:208", #[⟨5, .data⟩, ⟨0, .phase⟩, ⟨1, .phase⟩, ⟨2, .phase⟩, ⟨3, .phase⟩, ⟨4, .phase⟩, ⟨5, .phase⟩, ⟨6, .phase⟩, ⟨7, .phase⟩], aC⟩
def QX: Oper := ⟨aC, .store 9 (.tmp 129) (.tmp 128), 0, "l8_draw.go:208", #[⟨8, .data⟩, ⟨7, .data⟩, ⟨7, .chain⟩, ⟨0, .phase⟩, ⟨1, .phase⟩, ⟨2, .phase⟩, ⟨3, .phase⟩, ⟨4, .phase⟩, ⟨5, .phase⟩, ⟨6, .phase⟩, ⟨7, .phase⟩], aC⟩
def Afk:List Oper:=[QO,QP,QQ,QR,QS,QT,QU,QV,QW,QX]
def QY: Oper := ⟨aB 136, .fieldAddr 46 (.tmp 7) 2, 0, "l8_draw.go:212", #[], aC⟩
def QZ: Oper := ⟨aB 137, .load 44 (.tmp 136), 44, "l8_draw.go:212", #[⟨0, .data⟩], aC⟩
def Ra: Oper := ⟨aB 138, .fieldAddr 46 (.tmp 7) 2, 0, "l8_draw.go:212", #[], aC⟩
def Rb: Oper := ⟨aB 139, .load 44 (.tmp 138), 44, "l8_draw.go:212", #[⟨2, .data⟩], aC⟩
def Rc: Oper := ⟨aB 140, .move (.tmp 8), 3, "l8_draw.go:212", #[], aC⟩
def Re: Oper := ⟨aB 141, .indexAddr 44 (.tmp 139) (.tmp 140), 0, "l8_draw.go:212", #[⟨3, .data⟩, ⟨4, .data⟩], aC⟩
def Rf: Oper := ⟨aB 142, .load 115 (.tmp 141), 115, "l8_draw.go:212", #[⟨5, .data⟩], aC⟩
def Rg: Oper := ⟨aB 143, .buildSlice 44 1 #[(0, .tmp 142)], 44, "l8_draw.go:212", #[⟨6, .data⟩], aC⟩
def ZT: Oper := ⟨aB 144, .call { callee := .builtin .append, args := #[.tmp 137, .tmp 143], argTypes := #[44, 44] }, 44, "l8_draw.go:212", #[⟨1, .data⟩, ⟨7, .data⟩], aC⟩
def Rh: Oper := ⟨aB 145, .fieldAddr 46 (.tmp 7) 2, 0, "l8_draw.go:212", #[⟨0, .phase⟩, ⟨1, .phase⟩, ⟨2, .phase⟩, ⟨3, .phase⟩, ⟨4, .phase⟩, ⟨5, .phase⟩, ⟨6, .phase⟩, ⟨7, .phase⟩, ⟨8, .phase⟩], aC⟩
def L7: Oper := ⟨aC, .store 44 (.tmp 145) (.tmp 144), 0, "l8_draw.go:212", #[⟨9, .data⟩, ⟨8, .data⟩, ⟨8, .chain⟩, ⟨0, .phase⟩, ⟨1, .phase⟩, ⟨2, .phase⟩, ⟨3, .phase⟩, ⟨4, .phase⟩, ⟨5, .phase⟩, ⟨6, .phase⟩, ⟨7, .phase⟩, ⟨8, .phase⟩], aC⟩
def Afl:List Oper:=[QY,QZ,Ra,Rb,Rc,Re,Rf,Rg,ZT,Rh,L7]
def Ri: Oper := ⟨aB 156, .fieldAddr 46 (.tmp 7) 2, 0, "l8_draw.go:217", #[], aC⟩
def Rj: Oper := ⟨aB 157, .load 44 (.tmp 156), 44, "l8_draw.go:217", #[⟨0, .data⟩], aC⟩
def Rk: Oper := ⟨aB 158, .fieldAddr 46 (.tmp 7) 2, 0, "l8_draw.go:217", #[], aC⟩
def Rl: Oper := ⟨aB 159, .load 44 (.tmp 158), 44, "l8_draw.go:217", #[⟨2, .data⟩], aC⟩
def Rm: Oper := ⟨aB 160, .indexAddr 44 (.tmp 159) (.const (.int .i64 1)), 0, "l8_draw.go:217", #[⟨3, .data⟩], aC⟩
def Rn: Oper := ⟨aB 161, .load 115 (.tmp 160), 115, "l8_draw.go:217", #[⟨4, .data⟩], aC⟩
def Ro: Oper := ⟨aB 162, .indexAddr 44 (.tmp 157) (.const (.int .i64 0)), 0, "l8_draw.go:217", #[⟨1, .data⟩, ⟨0, .phase⟩, ⟨1, .phase⟩, ⟨2, .phase⟩, ⟨3, .phase⟩, ⟨4, .phase⟩, ⟨5, .phase⟩], aC⟩
def Rp: Oper := ⟨aC, .store 115 (.tmp 162) (.tmp 161), 0, "l8_draw.go:217", #[⟨6, .data⟩, ⟨5, .data⟩, ⟨0, .phase⟩, ⟨1, .phase⟩, ⟨2, .phase⟩, ⟨3, .phase⟩, ⟨4, .phase⟩, ⟨5, .phase⟩], aC⟩
def Afm:List Oper:=[Ri,Rj,Rk,Rl,Rm,Rn,Ro,Rp]
def Wl: Oper := ⟨aB 39, .fieldAddr 25 (.tmp 5) 0, 0, "l8_draw.go:227", #[], aC⟩
def Wm: Oper := ⟨aB 40, .load 23 (.tmp 39), 23, "l8_draw.go:227", #[⟨0, .data⟩], aC⟩
def ZU: Oper := ⟨aB 41, .call { callee := .builtin .len, args := #[.tmp 40], argTypes := #[23] }, 3, "l8_draw.go:227", #[⟨1, .data⟩], aC⟩
def Wn: Oper := ⟨aB 42, .move (.tmp 0), 65, "l8_draw.go:227", #[], aC⟩
def Wo: Oper := ⟨aB 43, .call { callee := .value (.func 44), args := #[.tmp 42, .const (.int .i64 2)], argTypes := #[65, 3] }, 3, "l8_draw.go:227", #[⟨3, .data⟩], aC⟩
def ZV: Oper := ⟨aB 44, .binOp .add 3 (.const (.int .i64 60)) (.tmp 43) 3, 3, "l8_draw.go:227", #[⟨4, .data⟩], aC⟩
def ZW: Oper := ⟨aB 45, .binOp .lss 3 (.tmp 41) (.tmp 44) 3, 4, "l8_draw.go:227", #[⟨2, .data⟩, ⟨5, .data⟩], aC⟩
def Agf:List Oper:=[Wl,Wm,ZU,Wn,Wo,ZV,ZW]
theorem TF.get0{L:Nat->Bool}(h:TF J m kk d L W)(a:L m=false):∃k',k'<=kk/\J k' W:=by
 obtain⟨k',b,h⟩:=h;exact⟨k',by simpa [a] using b,h⟩
theorem TF.put{k' a:Nat}{L:Nat->Bool}(b:k'<=kk)(c:a<=k'+d)(h:J a W):TF J m kk d (BN L m) W:=⟨a,by simp[BN];omega,h⟩
def OY(B p c X Y:Nat)(w1:World)(D T:List BAt)(y:BAt)(g n cap:Nat)(bk bn:ByteArray)(kk:Nat)(W:World):Prop:=Fh B p c X Y w1 D T y g n cap kk bk bn y.v y.ls W/\Ax c W (aA (aB ⟨g,0,aC⟩) n cap) (D++y::T)
theorem OY.V{cap:Nat}(h:OY B p c X Y w1 D T y g n cap bk bn kk W)(a:Below W.heap.size W W'):OY B p c X Y w1 D T y g n cap bk bn kk W':=⟨h.1.V a,h.2.V a⟩
theorem OY.grown{cap:Nat}(h:OY B p c X Y w1 D T y g n cap bk bn kk W)(a:W.grownBy W' (aB p))(b:Rd B W' p kk'):OY B p c X Y w1 D T y g n cap bk bn kk' W':=⟨h.1.grown a b,Ay.other h.2 a h.1.plt⟩
theorem Wp{cap:Nat}(h:OY B p c X Y w1 D T y g n cap bk bn kk W):W.cell? ⟨Y,2,aC⟩=aB y.v:=by
 have:=Aa h.1.yb 2;simpa using this
theorem Acm{l:Nat}{cap:Nat}(h:OY B p c X Y w1 D T ⟨yk,yn,aA (aB ⟨l,0,aC⟩) nl yc,ls⟩ g n cap bk bn kk W)(a:ls.length=nl)(j:Nat):W.frozen? ⟨l,j,aC⟩=false:=(h.2.bm.ac.size a).frozenAt j
theorem Rq{l:Nat}{A:List LAt}{x:LAt}{cap:Nat}(J:OY B p c X Y w1 D T ⟨yk,yn,aA (aB ⟨l,0,aC⟩) nl yc,A++x::E⟩ g n cap bk bn kk W)(ar:kk<=900000)(C:A.length=nI)(F:(A++x::E).length=nl)(M:a.eval (.tmp 0)=aD (aB ⟨p,0,aC⟩))(N:a.eval (.tmp 7)=aD (aB ⟨Y,0,aC⟩))(O:a.eval (.tmp 8)=.int .i64 (nI:Int))(au:a.tmps.size=199)
  (P:∀v u k' W' a',a'=An a [95,96,97,98,99,100,101,102,103,104] v->k'<=kk+1->Fh B p c X Y w1 D T ⟨yk,yn,aA (aB ⟨l,0,aC⟩) nl yc,A++x::E⟩ g n cap k' bk bn (aA (aB ⟨l,0,aC⟩) nl yc) (A++{ x with key:=u }::E) W'->Q .normal a' W'):(bL 20 Afj.toArray true).wp prog Q a W:=by
 have k:([95,96,97,98,99,100,101,102,103,104]:List Nat).Nodup:=by decide
 have av:nI<nl:=by rw[<-F,<-C];simp
 have i3:(0:Int)<=(nI:Int):=by omega
 have i4:(nI:Int)<(nl:Int):=by omega
 refine Bu [95,96,97,98,99,100,101,102,103,104] (Ii p Y l nI (aA (aB ⟨l,0,aC⟩) nl yc)) (TF (OY B p c X Y w1 D T ⟨yk,yn,aA (aB ⟨l,0,aC⟩) nl yc,A++x::E⟩ g n cap bk bn) 5 kk 1) 10 11 [0,1,2,3,4,5,6,7,8,9,10] (by kernel_rfl) rfl (by decide) (by kernel_rfl) ?h1 ⟨_,aN _,J.V (aR _ _).drew⟩ ?hall;case h1 =>
  intro i x W aw;unfold Ii;split <;> first|omega|trivial
 refine Ak.ae (o:=QF) [] (by kernel_rfl) (by decide) (by kernel_rfl) rfl ?o0 (Ak.ae (o:=QG) [0] (by kernel_rfl) (by decide) (by kernel_rfl) rfl ?o1 (Ak.ae (o:=QH) [] (by kernel_rfl) (by decide) (by kernel_rfl) rfl ?o2 (Ak.ae (o:=V4) [] (by kernel_rfl) (by decide) (by kernel_rfl) rfl ?o3 (Ak.ae (o:=QI) [] (by kernel_rfl) (by decide) (by kernel_rfl) rfl ?o4 (Ak.ae (o:=QJ) [4] (by kernel_rfl) (by decide) (by kernel_rfl) rfl ?o5 (Ak.ae (o:=QK) [3,5] (by kernel_rfl) (by decide) (by kernel_rfl) rfl ?o6 (Ak.ae (o:=QL) [6] (by kernel_rfl) (by decide) (by kernel_rfl) rfl ?o7 (Ak.ae (o:=QM) [1,2,0,1,2,3,4,5,6,7] (by kernel_rfl) (by decide) (by kernel_rfl) rfl ?o8 (Ak.ae (o:=QN) [8,0,1,2,3,4,5,6,7] (by kernel_rfl) (by decide) (by kernel_rfl) rfl ?o9 (Ak.lastQ (o:=L6) [9,7,5,0,1,2,3,4,5,6,7] (by kernel_rfl) (by kernel_rfl) rfl ?o10))))))))));case o0 =>
  rintro s L _ W q m ⟨v,rfl,d,f⟩ K j;have R:=(A6 (v:=v) (show 7 ∉ ([95,96,97,98,99,100,101,102,103,104]:List Nat) by decide)).trans N;have b : aE (An a [95, 96, 97, 98, 99, 100, 101, 102, 103, 104] v).eval QF = aE (aH ⟨#[undef], []⟩) ⟨aB 0, .fieldAddr 46 (.const (aD (aB ⟨Y, 0, aC⟩))) 2, 0, "", #[], aC⟩ := by simp only[aE, Ae, QF, R]
  refine BJ.mk ?_;unfold aJ;rw[b];clear b;go_simp;exact j.out _ _ (AE.next d 0 (aD (aB ⟨Y,2,aC⟩)) (Av 0 k rfl) (Ii.af (BY.refl _ _)) rfl (f.af (by decide) fun _ h=>h))
 case o1 =>
  rintro s L _ W q m ⟨v,rfl,d,f⟩ K j;obtain⟨k',w,r⟩:=f.get;have ax:=Wp r;have S:(An a [95,96,97,98,99,100,101,102,103,104] v).eval (.tmp 95)=_:=(Ao 0 k rfl (by omega)).trans (d 0 (m 0 (by simp)));have b : aE (An a [95, 96, 97, 98, 99, 100, 101, 102, 103, 104] v).eval QG = aE (aH ⟨#[undef], []⟩) ⟨aB 0, .load 44 (.const (aD (aB ⟨Y, 2, aC⟩))), 0, "", #[], aC⟩ := by simp only[aE, Ae, QG, S]
  refine BJ.mk ?_;unfold aJ;rw[b];clear b;go_simp;exact j.out _ _ (AE.next d 1 (aA (aB ⟨l,0,aC⟩) nl yc) (Av 1 k rfl) (Ii.af (BY.refl _ _)) rfl (f.af (by decide) fun _ h=>h))
 case o2 =>
  rintro s L _ W q m ⟨v,rfl,d,f⟩ K j;have U:=(A6 (v:=v) (show 8 ∉ ([95,96,97,98,99,100,101,102,103,104]:List Nat) by decide)).trans O;have b : aE (An a [95, 96, 97, 98, 99, 100, 101, 102, 103, 104] v).eval QH = aE (aH ⟨#[undef], []⟩) ⟨aB 0, .move (.const (.int .i64 (nI : Int))), 0, "", #[], aC⟩ := by simp only[aE, Ae, QH, U]
  refine BJ.mk ?_;unfold aJ;rw[b];clear b;go_simp;exact j.out _ _ (AE.next d 2 (.int .i64 (nI:Int)) (Av 2 k rfl) (Ii.af (BY.refl _ _)) rfl (f.af (by decide) fun _ h=>h))
 case o3 =>
  rintro s L _ W q m ⟨v,rfl,d,f⟩ K j;obtain⟨k',w,r⟩:=f.get;have b : aE (An a [95, 96, 97, 98, 99, 100, 101, 102, 103, 104] v).eval V4 = aE (aH ⟨#[undef], []⟩) ⟨aB 0, .buildSlice 52 3 #[(0, .const (.string ⟨#[]⟩)), (1, .const (.string ⟨#[105, 109, 97, 103, 101]⟩)), (2, .const (.string ⟨#[122, 111, 110, 101]⟩))], 0, "", #[], aC⟩ := by kernel_rfl
  refine BJ.mk ?_;unfold aJ;rw[b];clear b;go_simp;exact j.out _ _ (AE.next d 3 (aA (aB ⟨W.heap.size,0,aC⟩) 3 3) (Av 3 k rfl) (Ii.af (BY.alloc _ _ _)) ⟨_,rfl,Ai _ _,r.1.rd.lt⟩ (f.af (by decide) fun _ h=>h.V ((aR _ _).alloc (aN _) _)))
 case o4 =>
  rintro s L _ W q m ⟨v,rfl,d,f⟩ K j;have V:=(A6 (v:=v) (show 0 ∉ ([95,96,97,98,99,100,101,102,103,104]:List Nat) by decide)).trans M;have b : aE (An a [95, 96, 97, 98, 99, 100, 101, 102, 103, 104] v).eval QI = aE (aH ⟨#[undef], []⟩) ⟨aB 0, .move (.const (aD (aB ⟨p, 0, aC⟩))), 0, "", #[], aC⟩ := by simp only[aE, Ae, QI, V]
  refine BJ.mk ?_;unfold aJ;rw[b];clear b;go_simp;exact j.out _ _ (AE.next d 4 (aD (aB ⟨p,0,aC⟩)) (Av 4 k rfl) (Ii.af (BY.refl _ _)) rfl (f.af (by decide) fun _ h=>h))
 case o5 =>
  rintro s L _ W q m ⟨v,rfl,d,f⟩ K j;have Z:(An a [95,96,97,98,99,100,101,102,103,104] v).eval (.tmp 99)=_:=(Ao 4 k rfl (by omega)).trans (d 4 (m 4 (by simp)));obtain⟨k',w,r⟩:=f.get0 q;have aa:=A1 B p k' 3 W r.1.rd (by omega) (by omega) (by omega);have b : aE (An a [95, 96, 97, 98, 99, 100, 101, 102, 103, 104] v).eval QJ = aE (aH ⟨#[undef], []⟩) ⟨aB 0, .call { callee := .value (.func 44), args := #[.const (aD (aB ⟨p, 0, aC⟩)), .const (.int .i64 3)], argTypes := #[65, 3] }, 0, "", #[], aC⟩ := by simp only[aE, Ae, Cu, QJ, bS, aV, aW, aZ, Z]
  refine BJ.mk ?_;unfold aJ;rw[b];clear b;go_simp;refine aa.mono ?_;rintro e W' ⟨y,z,rfl,ab,H⟩;exact j.out _ _ (AE.next d 5 (.int .i64 (y:Int)) (Av 5 k rfl) (Ii.af (BY.grown H)) ⟨y,z,rfl⟩ (TF.put w (aN _) (r.grown H ab)))
 case o6 =>
  rintro s L _ W q m ⟨v,rfl,d,f⟩ K j;obtain⟨t,ac,G⟩:=d 3 (m 3 (by simp));obtain⟨y,z,ad⟩:=d 5 (m 5 (by simp));have ae:(An a [95,96,97,98,99,100,101,102,103,104] v).eval (.tmp 98)=_:=(Ao 3 k rfl (by omega)).trans ac;have af:(An a [95,96,97,98,99,100,101,102,103,104] v).eval (.tmp 100)=_:=(Ao 5 k rfl (by omega)).trans ad;have ay:(0:Int)<=(y:Int):=by omega
  have az:(y:Int)<3:=by omega
  have b : aE (An a [95, 96, 97, 98, 99, 100, 101, 102, 103, 104] v).eval QK = aE (aH ⟨#[undef], []⟩) ⟨aB 0, .indexAddr 52 (.const (aA (aB ⟨t, 0, aC⟩) 3 3)) (.const (.int .i64 (y : Int))), 0, "", #[], aC⟩ := by simp only[aE, Ae, QK, ae, af]
  refine BJ.mk ?_;unfold aJ;rw[b];clear b;go_simp;exact j.out _ _ (AE.next d 6 (aD (aB ⟨t,y,aC⟩)) (Av 6 k rfl) (Ii.af (BY.refl _ _)) ⟨t,y,z,rfl,G⟩ (f.af (by decide) fun _ h=>h))
 case o7 =>
  rintro s L _ W q m ⟨v,rfl,d,f⟩ K j;obtain⟨t,y,z,ag,G⟩:=d 6 (m 6 (by simp));obtain⟨u,ah,a0⟩:=G.cell (show y<TD.length from z);have ai:(An a [95,96,97,98,99,100,101,102,103,104] v).eval (.tmp 101)=_:=(Ao 6 k rfl (by omega)).trans ag;have b : aE (An a [95, 96, 97, 98, 99, 100, 101, 102, 103, 104] v).eval QL = aE (aH ⟨#[undef], []⟩) ⟨aB 0, .load 9 (.const (aD (aB ⟨t, y, aC⟩))), 0, "", #[], aC⟩ := by simp only[aE, Ae, QL, ai]
  refine BJ.mk ?_;unfold aJ;rw[b];clear b;go_simp;exact j.out _ _ (AE.next d 7 (.string u) (Av 7 k rfl) (Ii.af (BY.refl _ _)) ⟨u,rfl,TE u ah⟩ (f.af (by decide) fun _ h=>h))
 case o8 =>
  rintro s L _ W q m ⟨v,rfl,d,f⟩ K j;have aj:(An a [95,96,97,98,99,100,101,102,103,104] v).eval (.tmp 96)=_:=(Ao 1 k rfl (by omega)).trans (d 1 (m 1 (by simp)));have ak:(An a [95,96,97,98,99,100,101,102,103,104] v).eval (.tmp 97)=_:=(Ao 2 k rfl (by omega)).trans (d 2 (m 2 (by simp)));have b : aE (An a [95, 96, 97, 98, 99, 100, 101, 102, 103, 104] v).eval QM = aE (aH ⟨#[undef], []⟩) ⟨aB 0, .indexAddr 44 (.const (aA (aB ⟨l, 0, aC⟩) nl yc)) (.const (.int .i64 (nI : Int))), 0, "", #[], aC⟩ := by simp only[aE, Ae, QM, aj, ak]
  refine BJ.mk ?_;unfold aJ;rw[b];clear b;go_simp;exact j.out _ _ (AE.next d 8 (aD (aB ⟨l,nI*2,aC⟩)) (Av 8 k rfl) (Ii.af (BY.refl _ _)) rfl (f.af (by decide) fun _ h=>h))
 case o9 =>
  rintro s L _ W q m ⟨v,rfl,d,f⟩ K j;have al:(An a [95,96,97,98,99,100,101,102,103,104] v).eval (.tmp 103)=_:=(Ao 8 k rfl (by omega)).trans (d 8 (m 8 (by simp)));have b : aE (An a [95, 96, 97, 98, 99, 100, 101, 102, 103, 104] v).eval QN = aE (aH ⟨#[undef], []⟩) ⟨aB 0, .fieldAddr 115 (.const (aD (aB ⟨l, nI*2, aC⟩))) 0, 0, "", #[], aC⟩ := by simp only[aE, Ae, QN, al]
  refine BJ.mk ?_;unfold aJ;rw[b];clear b;go_simp;exact j.out _ _ (AE.next d 9 (aD (aB ⟨l,nI*2,aC⟩)) (Av 9 k rfl) (Ii.af (BY.refl _ _)) rfl (f.af (by decide) fun _ h=>h))
 case o10 =>
  rintro s L _ W q m ⟨v,rfl,d,f⟩ K j;obtain⟨u,am,an⟩:=d 7 (m 7 (by simp));have ao:(An a [95,96,97,98,99,100,101,102,103,104] v).eval (.tmp 104)=_:=(Ao 9 k rfl (by omega)).trans (d 9 (m 9 (by simp)));have ap:(An a [95,96,97,98,99,100,101,102,103,104] v).eval (.tmp 102)=_:=(Ao 7 k rfl (by omega)).trans am;obtain⟨k',w,r⟩:=f.get;have aq:=r.2.bm.ac.cell 0 (by decide);simp only[LAt.cells,aF,bP,C]at aq;have a1:=Acm r F (nI*2);have I:=Ab (Fh.key r.1 r.2 F u an);rw[C]at I;have b : aE (An a [95, 96, 97, 98, 99, 100, 101, 102, 103, 104] v).eval L6 = aE (aH ⟨#[undef], []⟩) ⟨aB 0, .store 9 (.const (aD (aB ⟨l, nI*2, aC⟩))) (.const (.string u)), 0, "", #[], aC⟩ := by simp only[aE, Ae, L6, ao, ap]
  refine BJ.mk ?_;unfold aJ;rw[b];clear b;go_simp;exact j.out _ _ (aU (P v u k' _ _ rfl w I.out))
theorem Rr{l:Nat}{A:List LAt}{r:Nat}{s:List UInt8}{y:List (List UInt8)}{cap:Nat}(J:OY B p c X Y w1 D T ⟨yk,yn,aA (aB ⟨l,0,aC⟩) nl yc,A++⟨xk,aA (aB ⟨r,0,aC⟩) nw wc,s::y⟩::E⟩ g n cap bk bn kk W)(ao:kk<=800000)(H:A.length=nI)(M:(A++⟨xk,aA (aB ⟨r,0,aC⟩) nw wc,s::y⟩::E).length=nl)(I:(s::y).length=nw)(N:a.eval (.tmp 0)=aD (aB ⟨p,0,aC⟩))(O:a.eval (.tmp 7)=aD (aB ⟨Y,0,aC⟩))(P:a.eval (.tmp 8)=.int .i64 (nI:Int))(ap:a.tmps.size=199)
  (R:∀v (t:ByteArray) k' W' a',a'=An a [121,122,123,124,125,126,127,128,129] v->k'<=kk+2->Fh B p c X Y w1 D T ⟨yk,yn,aA (aB ⟨l,0,aC⟩) nl yc,A++⟨xk,aA (aB ⟨r,0,aC⟩) nw wc,s::y⟩::E⟩ g n cap k' bk bn (aA (aB ⟨l,0,aC⟩) nl yc) (A++⟨xk,aA (aB ⟨r,0,aC⟩) nw wc,t.data.toList::y⟩::E) W'->Q .normal a' W'):(bL 23 Afk.toArray true).wp prog Q a W:=by
 have k:([121,122,123,124,125,126,127,128,129]:List Nat).Nodup:=by decide
 have aq:nI<nl:=by rw[<-M,<-H];simp
 have i3:(0:Int)<=(nI:Int):=by omega
 have i4:(nI:Int)<(nl:Int):=by omega
 have i5:(0:Int)<(nw:Int):=by rw[<-I];simp
 have ar:0<nw:=by omega
 refine Bu [121,122,123,124,125,126,127,128,129] (fun i x _=>Afh p Y l nI r nw wc (aA (aB ⟨l,0,aC⟩) nl yc) i x) (TF (OY B p c X Y w1 D T ⟨yk,yn,aA (aB ⟨l,0,aC⟩) nl yc,A++⟨xk,aA (aB ⟨r,0,aC⟩) nw wc,s::y⟩::E⟩ g n cap bk bn) 7 kk 2) 9 10 [0,1,2,3,4,5,6,7,8,9] (by kernel_rfl) rfl (by decide) (by kernel_rfl) ?h1 ⟨_,aN _,J.V (aR _ _).drew⟩ ?hall;case h1 =>
  intro i x W au;unfold Afh;split <;> first|omega|trivial
 refine Ak.ae (o:=QO) [] (by kernel_rfl) (by decide) (by kernel_rfl) rfl ?o0 (Ak.ae (o:=QP) [0] (by kernel_rfl) (by decide) (by kernel_rfl) rfl ?o1 (Ak.ae (o:=QQ) [] (by kernel_rfl) (by decide) (by kernel_rfl) rfl ?o2 (Ak.ae (o:=QR) [1,2] (by kernel_rfl) (by decide) (by kernel_rfl) rfl ?o3 (Ak.ae (o:=QS) [3] (by kernel_rfl) (by decide) (by kernel_rfl) rfl ?o4 (Ak.ae (o:=QT) [4] (by kernel_rfl) (by decide) (by kernel_rfl) rfl ?o5 (Ak.ae (o:=QU) [] (by kernel_rfl) (by decide) (by kernel_rfl) rfl ?o6 (Ak.ae (o:=QV) [6] (by kernel_rfl) (by decide) (by kernel_rfl) rfl ?o7 (Ak.ae (o:=QW) [5,0,1,2,3,4,5,6,7] (by kernel_rfl) (by decide) (by kernel_rfl) rfl ?o8 (Ak.lastQ (o:=QX) [8,7,7,0,1,2,3,4,5,6,7] (by kernel_rfl) (by kernel_rfl) rfl ?o9)))))))));case o0 =>
  rintro w L _ W q m ⟨v,rfl,d,f⟩ K j;have S:=(A6 (v:=v) (show 7 ∉ ([121,122,123,124,125,126,127,128,129]:List Nat) by decide)).trans O;have b : aE (An a [121, 122, 123, 124, 125, 126, 127, 128, 129] v).eval QO = aE (aH ⟨#[undef], []⟩) ⟨aB 0, .fieldAddr 46 (.const (aD (aB ⟨Y, 0, aC⟩))) 2, 0, "", #[], aC⟩ := by simp only[aE, Ae, QO, S]
  refine BJ.mk ?_;unfold aJ;rw[b];clear b;go_simp;exact j.out _ _ (AE.next (W:=W) d 0 (aD (aB ⟨Y,2,aC⟩)) (Av 0 k rfl) (fun _ _ h=>h) rfl (f.af (by decide) fun _ h=>h))
 case o1 =>
  rintro w L _ W q m ⟨v,rfl,d,f⟩ K j;obtain⟨k',z,u⟩:=f.get;have av:=Wp u;have U:(An a [121,122,123,124,125,126,127,128,129] v).eval (.tmp 121)=_:=(Ao 0 k rfl (by omega)).trans (d 0 (m 0 (by simp)));have b : aE (An a [121, 122, 123, 124, 125, 126, 127, 128, 129] v).eval QP = aE (aH ⟨#[undef], []⟩) ⟨aB 0, .load 44 (.const (aD (aB ⟨Y, 2, aC⟩))), 0, "", #[], aC⟩ := by simp only[aE, Ae, QP, U]
  refine BJ.mk ?_;unfold aJ;rw[b];clear b;go_simp;exact j.out _ _ (AE.next (W:=W) d 1 (aA (aB ⟨l,0,aC⟩) nl yc) (Av 1 k rfl) (fun _ _ h=>h) rfl (f.af (by decide) fun _ h=>h))
 case o2 =>
  rintro w L _ W q m ⟨v,rfl,d,f⟩ K j;have V:=(A6 (v:=v) (show 8 ∉ ([121,122,123,124,125,126,127,128,129]:List Nat) by decide)).trans P;have b : aE (An a [121, 122, 123, 124, 125, 126, 127, 128, 129] v).eval QQ = aE (aH ⟨#[undef], []⟩) ⟨aB 0, .move (.const (.int .i64 (nI : Int))), 0, "", #[], aC⟩ := by simp only[aE, Ae, QQ, V]
  refine BJ.mk ?_;unfold aJ;rw[b];clear b;go_simp;exact j.out _ _ (AE.next (W:=W) d 2 (.int .i64 (nI:Int)) (Av 2 k rfl) (fun _ _ h=>h) rfl (f.af (by decide) fun _ h=>h))
 case o3 =>
  rintro w L _ W q m ⟨v,rfl,d,f⟩ K j;have Z:(An a [121,122,123,124,125,126,127,128,129] v).eval (.tmp 122)=_:=(Ao 1 k rfl (by omega)).trans (d 1 (m 1 (by simp)));have aa:(An a [121,122,123,124,125,126,127,128,129] v).eval (.tmp 123)=_:=(Ao 2 k rfl (by omega)).trans (d 2 (m 2 (by simp)));have b : aE (An a [121, 122, 123, 124, 125, 126, 127, 128, 129] v).eval QR = aE (aH ⟨#[undef], []⟩) ⟨aB 0, .indexAddr 44 (.const (aA (aB ⟨l, 0, aC⟩) nl yc)) (.const (.int .i64 (nI : Int))), 0, "", #[], aC⟩ := by simp only[aE, Ae, QR, Z, aa]
  refine BJ.mk ?_;unfold aJ;rw[b];clear b;go_simp;exact j.out _ _ (AE.next (W:=W) d 3 (aD (aB ⟨l,nI*2,aC⟩)) (Av 3 k rfl) (fun _ _ h=>h) rfl (f.af (by decide) fun _ h=>h))
 case o4 =>
  rintro w L _ W q m ⟨v,rfl,d,f⟩ K j;have ab:(An a [121,122,123,124,125,126,127,128,129] v).eval (.tmp 124)=_:=(Ao 3 k rfl (by omega)).trans (d 3 (m 3 (by simp)));have b : aE (An a [121, 122, 123, 124, 125, 126, 127, 128, 129] v).eval QS = aE (aH ⟨#[undef], []⟩) ⟨aB 0, .fieldAddr 115 (.const (aD (aB ⟨l, nI*2, aC⟩))) 1, 0, "", #[], aC⟩ := by simp only[aE, Ae, QS, ab]
  refine BJ.mk ?_;unfold aJ;rw[b];clear b;go_simp;exact j.out _ _ (AE.next (W:=W) d 4 (aD (aB ⟨l,nI*2+1,aC⟩)) (Av 4 k rfl) (fun _ _ h=>h) rfl (f.af (by decide) fun _ h=>h))
 case o5 =>
  rintro w L _ W q m ⟨v,rfl,d,f⟩ K j;obtain⟨k',z,u⟩:=f.get;have C:=u.2.bm.ac.cell 1 (by decide);simp only[LAt.cells,aF,aI,H]at C;have ac:(An a [121,122,123,124,125,126,127,128,129] v).eval (.tmp 125)=_:=(Ao 4 k rfl (by omega)).trans (d 4 (m 4 (by simp)));have b : aE (An a [121, 122, 123, 124, 125, 126, 127, 128, 129] v).eval QT = aE (aH ⟨#[undef], []⟩) ⟨aB 0, .load 52 (.const (aD (aB ⟨l, nI*2 + 1, aC⟩))), 0, "", #[], aC⟩ := by simp only[aE, Ae, QT, ac]
  refine BJ.mk ?_;unfold aJ;rw[b];clear b;go_simp;exact j.out _ _ (AE.next (W:=W) d 5 (aA (aB ⟨r,0,aC⟩) nw wc) (Av 5 k rfl) (fun _ _ h=>h) rfl (f.af (by decide) fun _ h=>h))
 case o6 =>
  rintro w L _ W q m ⟨v,rfl,d,f⟩ K j;have ad:=(A6 (v:=v) (show 0 ∉ ([121,122,123,124,125,126,127,128,129]:List Nat) by decide)).trans N;have b : aE (An a [121, 122, 123, 124, 125, 126, 127, 128, 129] v).eval QU = aE (aH ⟨#[undef], []⟩) ⟨aB 0, .move (.const (aD (aB ⟨p, 0, aC⟩))), 0, "", #[], aC⟩ := by simp only[aE, Ae, QU, ad]
  refine BJ.mk ?_;unfold aJ;rw[b];clear b;go_simp;exact j.out _ _ (AE.next (W:=W) d 6 (aD (aB ⟨p,0,aC⟩)) (Av 6 k rfl) (fun _ _ h=>h) rfl (f.af (by decide) fun _ h=>h))
 case o7 =>
  rintro w L _ W q m ⟨v,rfl,d,f⟩ K j;have ae:(An a [121,122,123,124,125,126,127,128,129] v).eval (.tmp 127)=_:=(Ao 6 k rfl (by omega)).trans (d 6 (m 6 (by simp)));obtain⟨k',z,u⟩:=f.get0 q;have af:=OV B p k' W u.1.rd (by omega);have b : aE (An a [121, 122, 123, 124, 125, 126, 127, 128, 129] v).eval QV = aE (aH ⟨#[undef], []⟩) ⟨aB 0, .call { callee := .value (.func 164), args := #[.const (aD (aB ⟨p, 0, aC⟩))], argTypes := #[65] }, 0, "", #[], aC⟩ := by simp only[aE, Ae, Cu, QV, bS, aV, aW, aZ, ae]
  refine BJ.mk ?_;unfold aJ;rw[b];clear b;go_simp;refine af.mono ?_;rintro e W' ⟨t,aw,F,ag,rfl,ah,ai⟩;exact j.out _ _ (AE.next (W:=W) d 7 (.string t) (Av 7 k rfl) (fun _ _ h=>h) ⟨t,F,rfl⟩ (TF.put z ag (u.grown ai ah)))
 case o8 =>
  rintro w L _ W q m ⟨v,rfl,d,f⟩ K j;have aj:(An a [121,122,123,124,125,126,127,128,129] v).eval (.tmp 126)=_:=(Ao 5 k rfl (by omega)).trans (d 5 (m 5 (by simp)));have b : aE (An a [121, 122, 123, 124, 125, 126, 127, 128, 129] v).eval QW = aE (aH ⟨#[undef], []⟩) ⟨aB 0, .indexAddr 52 (.const (aA (aB ⟨r, 0, aC⟩) nw wc)) (.const (.int .i64 0)), 0, "", #[], aC⟩ := by simp only[aE, Ae, QW, aj]
  refine BJ.mk ?_;unfold aJ;rw[b];clear b;go_simp;exact j.out _ _ (AE.next (W:=W) d 8 (aD (aB ⟨r,0,aC⟩)) (Av 8 k rfl) (fun _ _ h=>h) rfl (f.af (by decide) fun _ h=>h))
 case o9 =>
  rintro w L _ W q m ⟨v,rfl,d,f⟩ K j;obtain⟨t,F,ak⟩:=d 7 (m 7 (by simp));have al:(An a [121,122,123,124,125,126,127,128,129] v).eval (.tmp 129)=_:=(Ao 8 k rfl (by omega)).trans (d 8 (m 8 (by simp)));have am:(An a [121,122,123,124,125,126,127,128,129] v).eval (.tmp 128)=_:=(Ao 7 k rfl (by omega)).trans ak;obtain⟨k',z,u⟩:=f.get;have G:=u.2.bm.ac.words;simp only[I]at G;have C:=G.cellAt 0 (by have:=i5;omega);simp only[strs,aW,aF]at C;have ax:=G.frozenAt 0;have an:=Ab (Fh.word u.1 u.2 t F);have b : aE (An a [121, 122, 123, 124, 125, 126, 127, 128, 129] v).eval QX = aE (aH ⟨#[undef], []⟩) ⟨aB 0, .store 9 (.const (aD (aB ⟨r, 0, aC⟩))) (.const (.string t)), 0, "", #[], aC⟩ := by simp only[aE, Ae, QX, al, am]
  refine BJ.mk ?_;unfold aJ;rw[b];clear b;go_simp;exact j.out _ _ (aU (R v t k' _ _ rfl z an.out))
variable {W0:World}
def Afn(Y l:Nat)(lv v1:Value)(i:Nat)(x:Value):Prop:=match i with
 | 0=>x=aD (aB ⟨Y,2,aC⟩)
 | 1=>x=lv
 | 2=>x=aD (aB ⟨Y,2,aC⟩)
 | 3=>x=lv
 | 4=>x=aD (aB ⟨l,2,aC⟩)
 | 5=>x=v1
 | 6=>x=aD (aB ⟨l,0,aC⟩)
 | _=>True
theorem Rs{l:Nat}{x0:LAt}{q:ByteArray}{a1:Option Addr}{r s:Nat}{u1:List (List UInt8)}{cap:Nat}(C:OY B p c X Y w1 D T ⟨yk,yn,aA (aB ⟨l,0,aC⟩) nl yc,x0::⟨q,aA a1 r s,u1⟩::E⟩ g n cap bk bn kk W0)(y:(x0::⟨q,aA a1 r s,u1⟩::E).length=nl)(A:a.eval (.tmp 7)=aD (aB ⟨Y,0,aC⟩))(aa:a.tmps.size=199)
  (F:∀v W' a',a'=An a [156,157,158,159,160,161,162] v->OY B p c X Y w1 D T ⟨yk,yn,aA (aB ⟨l,0,aC⟩) nl yc,x0::⟨q,aA a1 r s,u1⟩::E⟩ g n cap bk bn kk W'->Below W0.heap.size W0 W'->Q .normal a' (W'.setCells l 0 [.string q,aA a1 r s])):(bL 30 Afm.toArray true).wp prog Q a W0:=by
 have k:([156,157,158,159,160,161,162]:List Nat).Nodup:=by decide
 have ab:2<=nl:=by rw[<-y];simp
 have i4:(1:Int)<(nl:Int):=by omega
 have i5:(0:Int)<(nl:Int):=by omega
 have ac:1<nl:=by omega
 have ad:0<nl:=by omega
 refine Bu [156,157,158,159,160,161,162] (fun i x _=>Afn Y l (aA (aB ⟨l,0,aC⟩) nl yc) (bI #[.string q,aA a1 r s]) i x) (fun _ W=>OY B p c X Y w1 D T ⟨yk,yn,aA (aB ⟨l,0,aC⟩) nl yc,x0::⟨q,aA a1 r s,u1⟩::E⟩ g n cap bk bn kk W/\Below W0.heap.size W0 W) 7 8 [0,1,2,3,4,5,6,7] (by kernel_rfl) rfl (by decide) (by kernel_rfl) ?h1 ⟨C.V (aR _ _).drew,(aR _ _).drew⟩ ?hall;case h1 =>
  intro i x W ae;unfold Afn;split <;> first|omega|trivial
 refine Ak.ae (o:=Ri) [] (by kernel_rfl) (by decide) (by kernel_rfl) rfl ?o0 (Ak.ae (o:=Rj) [0] (by kernel_rfl) (by decide) (by kernel_rfl) rfl ?o1 (Ak.ae (o:=Rk) [] (by kernel_rfl) (by decide) (by kernel_rfl) rfl ?o2 (Ak.ae (o:=Rl) [2] (by kernel_rfl) (by decide) (by kernel_rfl) rfl ?o3 (Ak.ae (o:=Rm) [3] (by kernel_rfl) (by decide) (by kernel_rfl) rfl ?o4 (Ak.ae (o:=Rn) [4] (by kernel_rfl) (by decide) (by kernel_rfl) rfl ?o5 (Ak.ae (o:=Ro) [1,0,1,2,3,4,5] (by kernel_rfl) (by decide) (by kernel_rfl) rfl ?o6 (Ak.lastQ (o:=Rp) [6,5,0,1,2,3,4,5] (by kernel_rfl) (by kernel_rfl) rfl ?o7)))))));case o0 =>
  rintro t L _ W u m ⟨v,rfl,d,e,f⟩ K j;have z:=(A6 (v:=v) (show 7 ∉ ([156,157,158,159,160,161,162]:List Nat) by decide)).trans A;have b : aE (An a [156, 157, 158, 159, 160, 161, 162] v).eval Ri = aE (aH ⟨#[undef], []⟩) ⟨aB 0, .fieldAddr 46 (.const (aD (aB ⟨Y, 0, aC⟩))) 2, 0, "", #[], aC⟩ := by simp only[aE, Ae, Ri, z]
  refine BJ.mk ?_;unfold aJ;rw[b];clear b;go_simp;exact j.out _ _ (AE.next (W:=W) d 0 (aD (aB ⟨Y,2,aC⟩)) (Av 0 k rfl) (fun _ _ h=>h) rfl ⟨e,f⟩)
 case o1 =>
  rintro t L _ W u m ⟨v,rfl,d,e,f⟩ K j;have G:=Wp e;have H:(An a [156,157,158,159,160,161,162] v).eval (.tmp 156)=_:=(Ao 0 k rfl (by omega)).trans (d 0 (m 0 (by simp)));have b : aE (An a [156, 157, 158, 159, 160, 161, 162] v).eval Rj = aE (aH ⟨#[undef], []⟩) ⟨aB 0, .load 44 (.const (aD (aB ⟨Y, 2, aC⟩))), 0, "", #[], aC⟩ := by simp only[aE, Ae, Rj, H]
  refine BJ.mk ?_;unfold aJ;rw[b];clear b;go_simp;exact j.out _ _ (AE.next (W:=W) d 1 (aA (aB ⟨l,0,aC⟩) nl yc) (Av 1 k rfl) (fun _ _ h=>h) rfl ⟨e,f⟩)
 case o2 =>
  rintro t L _ W u m ⟨v,rfl,d,e,f⟩ K j;have z:=(A6 (v:=v) (show 7 ∉ ([156,157,158,159,160,161,162]:List Nat) by decide)).trans A;have b : aE (An a [156, 157, 158, 159, 160, 161, 162] v).eval Rk = aE (aH ⟨#[undef], []⟩) ⟨aB 0, .fieldAddr 46 (.const (aD (aB ⟨Y, 0, aC⟩))) 2, 0, "", #[], aC⟩ := by simp only[aE, Ae, Rk, z]
  refine BJ.mk ?_;unfold aJ;rw[b];clear b;go_simp;exact j.out _ _ (AE.next (W:=W) d 2 (aD (aB ⟨Y,2,aC⟩)) (Av 2 k rfl) (fun _ _ h=>h) rfl ⟨e,f⟩)
 case o3 =>
  rintro t L _ W u m ⟨v,rfl,d,e,f⟩ K j;have G:=Wp e;have I:(An a [156,157,158,159,160,161,162] v).eval (.tmp 158)=_:=(Ao 2 k rfl (by omega)).trans (d 2 (m 2 (by simp)));have b : aE (An a [156, 157, 158, 159, 160, 161, 162] v).eval Rl = aE (aH ⟨#[undef], []⟩) ⟨aB 0, .load 44 (.const (aD (aB ⟨Y, 2, aC⟩))), 0, "", #[], aC⟩ := by simp only[aE, Ae, Rl, I]
  refine BJ.mk ?_;unfold aJ;rw[b];clear b;go_simp;exact j.out _ _ (AE.next (W:=W) d 3 (aA (aB ⟨l,0,aC⟩) nl yc) (Av 3 k rfl) (fun _ _ h=>h) rfl ⟨e,f⟩)
 case o4 =>
  rintro t L _ W u m ⟨v,rfl,d,e,f⟩ K j;have J:(An a [156,157,158,159,160,161,162] v).eval (.tmp 159)=_:=(Ao 3 k rfl (by omega)).trans (d 3 (m 3 (by simp)));have b : aE (An a [156, 157, 158, 159, 160, 161, 162] v).eval Rm = aE (aH ⟨#[undef], []⟩) ⟨aB 0, .indexAddr 44 (.const (aA (aB ⟨l, 0, aC⟩) nl yc)) (.const (.int .i64 1)), 0, "", #[], aC⟩ := by simp only[aE, Ae, Rm, J]
  refine BJ.mk ?_;unfold aJ;rw[b];clear b;go_simp;exact j.out _ _ (AE.next (W:=W) d 4 (aD (aB ⟨l,2,aC⟩)) (Av 4 k rfl) (fun _ _ h=>h) rfl ⟨e,f⟩)
 case o5 =>
  rintro t L _ W u m ⟨v,rfl,d,e,f⟩ K j;have w:=e.2.bm.ac.size y;have M:=w.cellAt 2 (by omega);have N:=w.cellAt 3 (by omega);simp only[LAt.cells,cG,cH,cI,aF,aI]at M N;have O:(An a [156,157,158,159,160,161,162] v).eval (.tmp 160)=_:=(Ao 4 k rfl (by omega)).trans (d 4 (m 4 (by simp)));have b : aE (An a [156, 157, 158, 159, 160, 161, 162] v).eval Rn = aE (aH ⟨#[undef], []⟩) ⟨aB 0, .load 115 (.const (aD (aB ⟨l, 2, aC⟩))), 0, "", #[], aC⟩ := by simp only[aE, Ae, Rn, O]
  refine BJ.mk ?_;unfold aJ;rw[b];clear b;go_simp;exact j.out _ _ (AE.next (W:=W) d 5 (bI #[.string q,aA a1 r s]) (Av 5 k rfl) (fun _ _ h=>h) rfl ⟨e,f⟩)
 case o6 =>
  rintro t L _ W u m ⟨v,rfl,d,e,f⟩ K j;have P:(An a [156,157,158,159,160,161,162] v).eval (.tmp 157)=_:=(Ao 1 k rfl (by omega)).trans (d 1 (m 1 (by simp)));have b : aE (An a [156, 157, 158, 159, 160, 161, 162] v).eval Ro = aE (aH ⟨#[undef], []⟩) ⟨aB 0, .indexAddr 44 (.const (aA (aB ⟨l, 0, aC⟩) nl yc)) (.const (.int .i64 0)), 0, "", #[], aC⟩ := by simp only[aE, Ae, Ro, P]
  refine BJ.mk ?_;unfold aJ;rw[b];clear b;go_simp;exact j.out _ _ (AE.next (W:=W) d 6 (aD (aB ⟨l,0,aC⟩)) (Av 6 k rfl) (fun _ _ h=>h) rfl ⟨e,f⟩)
 case o7 =>
  rintro t L _ W u m ⟨v,rfl,d,e,f⟩ K j;have R:(An a [156,157,158,159,160,161,162] v).eval (.tmp 162)=_:=(Ao 6 k rfl (by omega)).trans (d 6 (m 6 (by simp)));have S:(An a [156,157,158,159,160,161,162] v).eval (.tmp 161)=_:=(Ao 5 k rfl (by omega)).trans (d 5 (m 5 (by simp)));have w:=e.2.bm.ac.size y;have U:=w.cellAt 0 (by omega);have V:=w.cellAt 1 (by omega);simp only[LAt.cells,cG,cH,cI,aF,aI]at U V;have af:=w.frozenAt 0;have ag:=w.frozenAt 1;have Z:=Ab (F v W _ rfl e f);have b : aE (An a [156, 157, 158, 159, 160, 161, 162] v).eval Rp = aE (aH ⟨#[undef], []⟩) ⟨aB 0, .store 115 (.const (aD (aB ⟨l, 0, aC⟩))) (.const (bI #[.string q, aA a1 r s])), 0, "", #[], aC⟩ := by simp only[aE, Ae, Rp, R, S]
  refine BJ.mk ?_;unfold aJ;rw[b];clear b;go_simp;exact j.out _ _ (aU Z.out)
variable {xa:Option Addr}{xc:Nat}
theorem Rt{l:Nat}{A:List LAt}{C:List (List UInt8)}{cap:Nat}(J:OY B p c X Y w1 D T ⟨yk,yn,aA (aB ⟨l,0,aC⟩) nl yc,A++⟨xk,aA xa nw xc,C⟩::E⟩ g n cap yk yn kk W0)(aa:A.length=nI)(P:(A++⟨xk,aA xa nw xc,C⟩::E).length=nl)(be:nl<=10)(bf:c<=W0.heap.size)(U:a.eval (.tmp 7)=aD (aB ⟨Y,0,aC⟩))(af:a.eval (.tmp 8)=.int .i64 (nI:Int))(bg:a.tmps.size=199)
  (ag:∀v W' a' x,a'=An a [136,137,138,139,140,141,142,143,144,145] v->(∃o m ah,x=aA o m ah)->Fh B p c X Y w1 D T ⟨yk,yn,aA (aB ⟨l,0,aC⟩) nl yc,A++⟨xk,aA xa nw xc,C⟩::E⟩ g n cap kk yk yn x (A++⟨xk,aA xa nw xc,C⟩::E++[⟨xk,aA xa nw xc,C⟩]) W'->Q .normal a' W'):(bL 26 Afl.toArray true).wp prog Q a W0:=by
 have s:([136,137,138,139,140,141,142,143,144,145]:List Nat).Nodup:=by decide
 have bh:nI<nl:=by rw[<-P,<-aa];simp
 have i3:(0:Int)<=(nI:Int):=by omega
 have i4:(nI:Int)<(nl:Int):=by omega
 have bi:l<W0.heap.size:=((J.2.ac ⟨yk,yn,aA (aB ⟨l,0,aC⟩) nl yc,A++⟨xk,aA xa nw xc,C⟩::E⟩ (by simp)).row.lt l rfl).2;have ai:l≠Y:=EP (J.1.mine.1.2.1 Y (by simp)).1 (by simp only;omega);have bj:Y<W0.heap.size:=(aG.1 J.1.yb).1;obtain⟨i0,ab,aj,ak,al⟩:=cM CQ;refine Bu [136,137,138,139,140,141,142,143,144,145] (TG Y l nI nl yc xk (aA xa nw xc) (fun v W=>Fh B p c X Y w1 D T ⟨yk,yn,aA (aB ⟨l,0,aC⟩) nl yc,A++⟨xk,aA xa nw xc,C⟩::E⟩ g n cap kk yk yn v (A++⟨xk,aA xa nw xc,C⟩::E++[⟨xk,aA xa nw xc,C⟩]) (W.setCell ⟨Y,2,aC⟩ v))) (Age Y yk yn (aA (aB ⟨l,0,aC⟩) nl yc) (fun W=>OY B p c X Y w1 D T ⟨yk,yn,aA (aB ⟨l,0,aC⟩) nl yc,A++⟨xk,aA xa nw xc,C⟩::E⟩ g n cap yk yn kk W/\W0.heap.size<=W.heap.size)) 10 11 [0,1,2,3,4,5,6,7,8,9,10] (by kernel_rfl) rfl (by decide) (by kernel_rfl) ?h1 ⟨J.1.yb,fun _=>⟨J.V (aR _ _).drew,aN _⟩,(fun h=>by cases h),(fun h=>by cases h)⟩ ?hall;case h1 =>
  intro i x W ab;unfold TG;split <;> first|omega|trivial
 refine Ak.ae (o:=QY) [] (by kernel_rfl) (by decide) (by kernel_rfl) rfl ?o0 (Ak.ae (o:=QZ) [0] (by kernel_rfl) (by decide) (by kernel_rfl) rfl ?o1 (Ak.ae (o:=Ra) [] (by kernel_rfl) (by decide) (by kernel_rfl) rfl ?o2 (Ak.ae (o:=Rb) [2] (by kernel_rfl) (by decide) (by kernel_rfl) rfl ?o3 (Ak.ae (o:=Rc) [] (by kernel_rfl) (by decide) (by kernel_rfl) rfl ?o4 (Ak.ae (o:=Re) [3,4] (by kernel_rfl) (by decide) (by kernel_rfl) rfl ?o5 (Ak.ae (o:=Rf) [5] (by kernel_rfl) (by decide) (by kernel_rfl) rfl ?o6 (Ak.ae (o:=Rg) [6] (by kernel_rfl) (by decide) (by kernel_rfl) rfl ?o7 (Ak.ae (o:=ZT) [1,7] (by kernel_rfl) (by decide) (by kernel_rfl) rfl ?o8 (Ak.ae (o:=Rh) [0,1,2,3,4,5,6,7,8] (by kernel_rfl) (by decide) (by kernel_rfl) rfl ?o9 (Ak.lastQ (o:=L7) [9,8,8,0,1,2,3,4,5,6,7,8] (by kernel_rfl) (by kernel_rfl) rfl ?o10))))))))));case o0 =>
  rintro G L _ W F k ⟨v,rfl,b,f,q,w,z⟩ K r;have M:=(A6 (v:=v) (show 7 ∉ ([136,137,138,139,140,141,142,143,144,145]:List Nat) by decide)).trans U;have d : aE (An a [136, 137, 138, 139, 140, 141, 142, 143, 144, 145] v).eval QY = aE (aH ⟨#[undef], []⟩) ⟨aB 0, .fieldAddr 46 (.const (aD (aB ⟨Y, 0, aC⟩))) 2, 0, "", #[], aC⟩ := by simp only[aE, Ae, QY, M]
  refine BJ.mk ?_;unfold aJ;rw[d];clear d;go_simp;exact r.out _ _ (AE.ak (W:=W) b 0 (aD (aB ⟨Y,2,aC⟩)) (Av 0 s rfl) (fun _ _ _ h=>h) rfl ⟨f,by simpa [BN] using q,by simpa [BN] using w,by simpa [BN] using z⟩)
 case o1 =>
  rintro G L _ W F k ⟨v,rfl,b,f,q,w,z⟩ K r;have N:=Aa f 2;simp only[aL,aF,aI]at N;have am:(An a [136,137,138,139,140,141,142,143,144,145] v).eval (.tmp 136)=_:=(Ao 0 s rfl (by omega)).trans (b 0 (k 0 (by simp)));have d : aE (An a [136, 137, 138, 139, 140, 141, 142, 143, 144, 145] v).eval QZ = aE (aH ⟨#[undef], []⟩) ⟨aB 0, .load 44 (.const (aD (aB ⟨Y, 2, aC⟩))), 0, "", #[], aC⟩ := by simp only[aE, Ae, QZ, am]
  refine BJ.mk ?_;unfold aJ;rw[d];clear d;go_simp;exact r.out _ _ (AE.ak (W:=W) b 1 (aA (aB ⟨l,0,aC⟩) nl yc) (Av 1 s rfl) (fun _ _ _ h=>h) rfl ⟨f,by simpa [BN] using q,by simpa [BN] using w,by simpa [BN] using z⟩)
 case o2 =>
  rintro G L _ W F k ⟨v,rfl,b,f,q,w,z⟩ K r;have M:=(A6 (v:=v) (show 7 ∉ ([136,137,138,139,140,141,142,143,144,145]:List Nat) by decide)).trans U;have d : aE (An a [136, 137, 138, 139, 140, 141, 142, 143, 144, 145] v).eval Ra = aE (aH ⟨#[undef], []⟩) ⟨aB 0, .fieldAddr 46 (.const (aD (aB ⟨Y, 0, aC⟩))) 2, 0, "", #[], aC⟩ := by simp only[aE, Ae, Ra, M]
  refine BJ.mk ?_;unfold aJ;rw[d];clear d;go_simp;exact r.out _ _ (AE.ak (W:=W) b 2 (aD (aB ⟨Y,2,aC⟩)) (Av 2 s rfl) (fun _ _ _ h=>h) rfl ⟨f,by simpa [BN] using q,by simpa [BN] using w,by simpa [BN] using z⟩)
 case o3 =>
  rintro G L _ W F k ⟨v,rfl,b,f,q,w,z⟩ K r;have N:=Aa f 2;simp only[aL,aF,aI]at N;have an:(An a [136,137,138,139,140,141,142,143,144,145] v).eval (.tmp 138)=_:=(Ao 2 s rfl (by omega)).trans (b 2 (k 2 (by simp)));have d : aE (An a [136, 137, 138, 139, 140, 141, 142, 143, 144, 145] v).eval Rb = aE (aH ⟨#[undef], []⟩) ⟨aB 0, .load 44 (.const (aD (aB ⟨Y, 2, aC⟩))), 0, "", #[], aC⟩ := by simp only[aE, Ae, Rb, an]
  refine BJ.mk ?_;unfold aJ;rw[d];clear d;go_simp;exact r.out _ _ (AE.ak (W:=W) b 3 (aA (aB ⟨l,0,aC⟩) nl yc) (Av 3 s rfl) (fun _ _ _ h=>h) rfl ⟨f,by simpa [BN] using q,by simpa [BN] using w,by simpa [BN] using z⟩)
 case o4 =>
  rintro G L _ W F k ⟨v,rfl,b,f,q,w,z⟩ K r;have ap:=(A6 (v:=v) (show 8 ∉ ([136,137,138,139,140,141,142,143,144,145]:List Nat) by decide)).trans af;have d : aE (An a [136, 137, 138, 139, 140, 141, 142, 143, 144, 145] v).eval Rc = aE (aH ⟨#[undef], []⟩) ⟨aB 0, .move (.const (.int .i64 (nI : Int))), 0, "", #[], aC⟩ := by simp only[aE, Ae, Rc, ap]
  refine BJ.mk ?_;unfold aJ;rw[d];clear d;go_simp;exact r.out _ _ (AE.ak (W:=W) b 4 (.int .i64 (nI:Int)) (Av 4 s rfl) (fun _ _ _ h=>h) rfl ⟨f,by simpa [BN] using q,by simpa [BN] using w,by simpa [BN] using z⟩)
 case o5 =>
  rintro G L _ W F k ⟨v,rfl,b,f,q,w,z⟩ K r;have aq:(An a [136,137,138,139,140,141,142,143,144,145] v).eval (.tmp 139)=_:=(Ao 3 s rfl (by omega)).trans (b 3 (k 3 (by simp)));have ar:(An a [136,137,138,139,140,141,142,143,144,145] v).eval (.tmp 140)=_:=(Ao 4 s rfl (by omega)).trans (b 4 (k 4 (by simp)));have d : aE (An a [136, 137, 138, 139, 140, 141, 142, 143, 144, 145] v).eval Re = aE (aH ⟨#[undef], []⟩) ⟨aB 0, .indexAddr 44 (.const (aA (aB ⟨l, 0, aC⟩) nl yc)) (.const (.int .i64 (nI : Int))), 0, "", #[], aC⟩ := by simp only[aE, Ae, Re, aq, ar]
  refine BJ.mk ?_;unfold aJ;rw[d];clear d;go_simp;exact r.out _ _ (AE.ak (W:=W) b 5 (aD (aB ⟨l,nI*2,aC⟩)) (Av 5 s rfl) (fun _ _ _ h=>h) rfl ⟨f,by simpa [BN] using q,by simpa [BN] using w,by simpa [BN] using z⟩)
 case o6 =>
  rintro G L _ W F k ⟨v,rfl,b,f,q,w,z⟩ K r;have V:L 7=false:=by
   cases e:L 7
   ·rfl
   ·have:=z e;rw[F]at this;cases this
  have R:L 8=false:=by
   cases e:L 8
   ·rfl
   ·have:=w e;rw[V]at this;cases this
  have H:=(q R).1;have au:=H.2.bm.ac.cell 0 (by decide);have av:=H.2.bm.ac.cell 1 (by decide);simp only[LAt.cells,aF,aI,bP,aa]at au av;have aw:(An a [136,137,138,139,140,141,142,143,144,145] v).eval (.tmp 141)=_:=(Ao 5 s rfl (by omega)).trans (b 5 (k 5 (by simp)));have d : aE (An a [136, 137, 138, 139, 140, 141, 142, 143, 144, 145] v).eval Rf = aE (aH ⟨#[undef], []⟩) ⟨aB 0, .load 115 (.const (aD (aB ⟨l, nI*2, aC⟩))), 0, "", #[], aC⟩ := by simp only[aE, Ae, Rf, aw]
  refine BJ.mk ?_;unfold aJ;rw[d];clear d;go_simp;exact r.out _ _ (AE.ak (W:=W) b 6 (bI #[.string xk,aA xa nw xc]) (Av 6 s rfl) (fun _ _ _ h=>h) rfl ⟨f,by simpa [BN] using q,by simpa [BN] using w,by simp[BN]⟩)
 case o7 =>
  rintro G L _ W F k ⟨v,rfl,b,f,q,w,z⟩ K r;have V:L 7=false:=F;have R:L 8=false:=by
   cases e:L 8
   ·rfl
   ·have:=w e;rw[V]at this;cases this
  have H:=q R;have ax:(An a [136,137,138,139,140,141,142,143,144,145] v).eval (.tmp 142)=_:=(Ao 6 s rfl (by omega)).trans (b 6 (k 6 (by simp)));have d : aE (An a [136, 137, 138, 139, 140, 141, 142, 143, 144, 145] v).eval Rg = aE (aH ⟨#[undef], []⟩) ⟨aB 0, .buildSlice 44 1 #[(0, .const (bI #[.string xk, aA xa nw xc]))], 0, "", #[], aC⟩ := by simp only[aE, Ae, Rg, ax, aV, aW, aZ]
  refine BJ.mk ?_;unfold aJ;rw[d];clear d;go_simp;exact r.out _ _ (AE.ak (W:=W) b 7 (aA (aB ⟨W.heap.size,0,aC⟩) 1 1) (Av 7 s rfl) (fun j y I h=>TG.af (BY.alloc _ _ _) j y (fun e=>by rw[e,R]at I;cases I) h) ⟨_,rfl,by omega,Ai _ _⟩ ⟨by rw[Cs _ _ _ (by omega)];exact f,fun _=>⟨H.1.V ((aR _ _).alloc (aN _) _),by rw[cF];omega⟩,(fun h=>by simp[BN]),(fun h=>by simp[BN,k 6 (by simp)])⟩)
 case o8 =>
  rintro G L _ W F k ⟨v,rfl,b,f,q,w,z⟩ K r;obtain⟨t,ay,bk,az⟩:=b 7 (k 7 (by simp));have a0:(An a [136,137,138,139,140,141,142,143,144,145] v).eval (.tmp 137)=_:=(Ao 1 s rfl (by omega)).trans (b 1 (k 1 (by simp)));have a1:(An a [136,137,138,139,140,141,142,143,144,145] v).eval (.tmp 143)=_:=(Ao 7 s rfl (by omega)).trans ay;have H:=q F;have a2:=H.1.2.bm.ac.size P;have a3:Am W (aA (aB ⟨t,0,aC⟩) 1 1) 1 2 [.string xk,aA xa nw xc]:=⟨rfl,_,_,rfl,⟨aN _,by unfold maxLen;omega⟩,.inr ⟨t,0,rfl,fun j u I=>by rw[Nat.zero_add,Aa az j];simpa using I⟩⟩;refine BJ.mk ?_;exact En (.tmp 137) (.tmp 143) 44 rfl c 115 i0 _ 2 40 underlying44 ab aj ak al rfl (by decide) _ nl _ a0 a2 _ 1 _ a1 a3 (by intro a4 S;simp at S;rcases S with rfl|rfl <;> rfl) (by unfold maxLen;omega) (by omega) (by omega) (fun ao ac a5 ad a6 a7=>by
   have Z:W.grownBy a5 (aB l):=a6;obtain⟨a9,rfl⟩:∃a9,ao=aB ⟨a9,0,aC⟩:=Ku ad (by omega);have O:=H.1.1.app (l:=l) (v':=aA (aB ⟨a9,0,aC⟩) (nl+1) ac) (ls':=A++⟨xk,aA xa nw xc,C⟩::E++[⟨xk,aA xa nw xc,C⟩]) H.1.2 rfl (by simp only;omega) Z (by
    have a8:(A++(⟨xk,aA xa nw xc,C⟩:LAt)::E++[(⟨xk,aA xa nw xc,C⟩:LAt)]).length=nl+1:=by rw[bK,P];rfl
    have ba:(A++(⟨xk,aA xa nw xc,C⟩:LAt)::E++[(⟨xk,aA xa nw xc,C⟩:LAt)]).flatMap LAt.cells=(A++(⟨xk,aA xa nw xc,C⟩:LAt)::E).flatMap LAt.cells++[.string xk,aA xa nw xc]:=by rw[List.flatMap_append];rfl
    rw[a8,ba];exact ad) a7 (fun a4 S=>by
     rcases bC.1 S with h|h
     ·exact h
     ·rw[aK.1 h];simp) (by rw[bK,P];simp only[List.length_singleton];omega)
   exact r.out _ _ (AE.ak (W:=W) b 8 (aA (aB ⟨a9,0,aC⟩) (nl+1) ac) (Av 8 s rfl) (fun j y I h=>TG.af (BY.grown Z) j y (fun e=>by rw[e,F]at I;cases I) h) ⟨_,_,rfl,O⟩ ⟨(Z.block Y (by omega) (by intro e;cases e;exact ai rfl)).trans f,(fun h=>by simp[BN]at h),(fun h=>by simp[BN,k 7 (by simp)]),by simpa [BN] using z⟩))
 case o9 =>
  rintro G L _ W F k ⟨v,rfl,b,f,q,w,z⟩ K r;have M:=(A6 (v:=v) (show 7 ∉ ([136,137,138,139,140,141,142,143,144,145]:List Nat) by decide)).trans U;have d : aE (An a [136, 137, 138, 139, 140, 141, 142, 143, 144, 145] v).eval Rh = aE (aH ⟨#[undef], []⟩) ⟨aB 0, .fieldAddr 46 (.const (aD (aB ⟨Y, 0, aC⟩))) 2, 0, "", #[], aC⟩ := by simp only[aE, Ae, Rh, M]
  refine BJ.mk ?_;unfold aJ;rw[d];clear d;go_simp;exact r.out _ _ (AE.ak (W:=W) b 9 (aD (aB ⟨Y,2,aC⟩)) (Av 9 s rfl) (fun _ _ _ h=>h) rfl ⟨f,by simpa [BN] using q,by simpa [BN] using w,by simpa [BN] using z⟩)
 case o10 =>
  rintro G L _ W F k ⟨v,rfl,b,f,q,w,z⟩ K r;obtain⟨a9,c9,ae,O⟩:=b 8 (k 8 (by simp));rw[ae]at O;have bb:(An a [136,137,138,139,140,141,142,143,144,145] v).eval (.tmp 145)=_:=(Ao 9 s rfl (by omega)).trans (b 9 (k 9 (by simp)));have bc:(An a [136,137,138,139,140,141,142,143,144,145] v).eval (.tmp 144)=_:=(Ao 8 s rfl (by omega)).trans ae;have N:=Aa f 2;simp only[aL,aF,aI]at N;have bl:=Ac f 2;have bd:=Ab (ag v _ _ _ rfl ⟨_,_,_,rfl⟩ O);clear O;have d : aE (An a [136, 137, 138, 139, 140, 141, 142, 143, 144, 145] v).eval L7 = aE (aH ⟨#[undef], []⟩) ⟨aB 0, .store 44 (.const (aD (aB ⟨Y, 2, aC⟩))) (.const (aA (aB ⟨a9, 0, aC⟩) (nl + 1) c9)), 0, "", #[], aC⟩ := by simp only[aE, Ae, L7, bb, bc]
  refine BJ.mk ?_;unfold aJ;rw[d];clear d;go_simp;exact r.out _ _ (aU bd.out)
theorem TI{cap:Nat}(J:Nat->World->Prop)(B:Nat)(w:∀k W,J k W->Rd B W p k)(z:∀k W,J k W->W.cell? ⟨X,0,aC⟩=aB (aA (aB ⟨g,0,aC⟩) n cap))(A:∀k k' W W',J k W->W.grownBy W' (aB p)->Rd B W' p k'->J k' W')(C:∀k W,J k W->J k W.drew)(D:J kk W)(ad:kk<=900000)(ae:n<=1000)(E:a.eval (.tmp 0)=aD (aB ⟨p,0,aC⟩))(F:a.eval (.tmp 5)=aD (aB ⟨X,0,aC⟩))(af:a.tmps.size=199)
  (G:∀v b k' W' a',a'=An a [39,40,41,42,43,44,45] v->v 6=.bool b->(b=true->n<=60)->k'<=kk+1->J k' W'->Q .normal a' W'):(bL 9 Agf.toArray true).wp prog Q a W:=by
 have f:([39,40,41,42,43,44,45]:List Nat).Nodup:=by decide
 refine E7 [39,40,41,42,43,44,45] (fun i x _=>Afi p X g n cap i x) (TF J 4 kk 1) 7 [0,1,2,3,4,5,6] (by kernel_rfl) rfl (by decide) (by kernel_rfl) ?h1 ⟨_,aN _,C _ _ D⟩ ?hall ?hend;case h1 =>
  intro i x W ag;unfold Afi;split <;> first|omega|trivial
 case hend =>
  intro v W' L ah c d;obtain⟨k',t,r⟩:=d.get;obtain⟨b,H,I⟩:=c 6;exact aU (G v b k' W' _ rfl H I t r)
 refine Ak.ae (o:=Wl) [] (by kernel_rfl) (by decide) (by kernel_rfl) rfl ?o0 (Ak.ae (o:=Wm) [0] (by kernel_rfl) (by decide) (by kernel_rfl) rfl ?o1 (Ak.ae (o:=ZU) [1] (by kernel_rfl) (by decide) (by kernel_rfl) rfl ?o2 (Ak.ae (o:=Wn) [] (by kernel_rfl) (by decide) (by kernel_rfl) rfl ?o3 (Ak.ae (o:=Wo) [3] (by kernel_rfl) (by decide) (by kernel_rfl) rfl ?o4 (Ak.ae (o:=ZV) [4] (by kernel_rfl) (by decide) (by kernel_rfl) rfl ?o5 (Ak.ae (o:=ZW) [2,5] (by kernel_rfl) (by decide) (by kernel_rfl) rfl ?o6 Ak.nil))))));case o0 =>
  rintro s L _ W q l ⟨v,rfl,c,d⟩ K j;have M:=(A6 (v:=v) (show 5 ∉ ([39,40,41,42,43,44,45]:List Nat) by decide)).trans F;have m : aE (An a [39, 40, 41, 42, 43, 44, 45] v).eval Wl = aE (aH ⟨#[undef], []⟩) ⟨aB 0, .fieldAddr 25 (.const (aD (aB ⟨X, 0, aC⟩))) 0, 0, "", #[], aC⟩ := by simp only[aE, Ae, Wl, M]
  refine BJ.mk ?_;unfold aJ;rw[m];clear m;go_simp;exact j.out _ _ (AE.next (W:=W) c 0 (aD (aB ⟨X,0,aC⟩)) (Av 0 f rfl) (fun _ _ h=>h) rfl (d.af (by decide) fun _ h=>h))
 case o1 =>
  rintro s L _ W q l ⟨v,rfl,c,d⟩ K j;obtain⟨k',t,r⟩:=d.get;have ai:=z _ _ r;have N:(An a [39,40,41,42,43,44,45] v).eval (.tmp 39)=_:=(Ao 0 f rfl (by omega)).trans (c 0 (l 0 (by simp)));have m : aE (An a [39, 40, 41, 42, 43, 44, 45] v).eval Wm = aE (aH ⟨#[undef], []⟩) ⟨aB 0, .load 23 (.const (aD (aB ⟨X, 0, aC⟩))), 0, "", #[], aC⟩ := by simp only[aE, Ae, Wm, N]
  refine BJ.mk ?_;unfold aJ;rw[m];clear m;go_simp;exact j.out _ _ (AE.next (W:=W) c 1 (aA (aB ⟨g,0,aC⟩) n cap) (Av 1 f rfl) (fun _ _ h=>h) rfl (d.af (by decide) fun _ h=>h))
 case o2 =>
  rintro s L _ W q l ⟨v,rfl,c,d⟩ K j;have O:(An a [39,40,41,42,43,44,45] v).eval (.tmp 40)=_:=(Ao 1 f rfl (by omega)).trans (c 1 (l 1 (by simp)));refine BJ.mk ?_;unfold aJ;simp only[aE,ZU,bS,aV,aW,aZ,O];go_simp;exact j.out _ _ (AE.next (W:=W) c 2 (.int .i64 (n:Int)) (Av 2 f rfl) (fun _ _ h=>h) rfl (d.af (by decide) fun _ h=>h))
 case o3 =>
  rintro s L _ W q l ⟨v,rfl,c,d⟩ K j;have P:=(A6 (v:=v) (show 0 ∉ ([39,40,41,42,43,44,45]:List Nat) by decide)).trans E;have m : aE (An a [39, 40, 41, 42, 43, 44, 45] v).eval Wn = aE (aH ⟨#[undef], []⟩) ⟨aB 0, .move (.const (aD (aB ⟨p, 0, aC⟩))), 0, "", #[], aC⟩ := by simp only[aE, Ae, Wn, P]
  refine BJ.mk ?_;unfold aJ;rw[m];clear m;go_simp;exact j.out _ _ (AE.next (W:=W) c 3 (aD (aB ⟨p,0,aC⟩)) (Av 3 f rfl) (fun _ _ h=>h) rfl (d.af (by decide) fun _ h=>h))
 case o4 =>
  rintro s L _ W q l ⟨v,rfl,c,d⟩ K j;have R:(An a [39,40,41,42,43,44,45] v).eval (.tmp 42)=_:=(Ao 3 f rfl (by omega)).trans (c 3 (l 3 (by simp)));obtain⟨k',t,r⟩:=d.get0 q;have S:=A1 B p k' 2 W (w _ _ r) (by omega) (by omega) (by omega);have m : aE (An a [39, 40, 41, 42, 43, 44, 45] v).eval Wo = aE (aH ⟨#[undef], []⟩) ⟨aB 0, .call { callee := .value (.func 44), args := #[.const (aD (aB ⟨p, 0, aC⟩)), .const (.int .i64 2)], argTypes := #[65, 3] }, 0, "", #[], aC⟩ := by simp only[aE, Ae, Cu, Wo, bS, aV, aW, aZ, R]
  refine BJ.mk ?_;unfold aJ;rw[m];clear m;go_simp;refine S.mono ?_;rintro e W' ⟨y,u,rfl,T,U⟩;exact j.out _ _ (AE.next (W:=W) c 4 (.int .i64 (y:Int)) (Av 4 f rfl) (fun _ _ h=>h) ⟨y,u,rfl⟩ (TF.put t (aN _) (A _ _ _ _ r U T)))
 case o5 =>
  rintro s L _ W q l ⟨v,rfl,c,d⟩ K j;obtain⟨y,u,V⟩:=c 4 (l 4 (by simp));have Y:(An a [39,40,41,42,43,44,45] v).eval (.tmp 43)=_:=(Ao 4 f rfl (by omega)).trans V;refine BJ.mk ?_;unfold aJ;simp only[aE,Ae,ZV,Y];go_simp;rw[show IntKind.i64.wrap (60+(y:Int))=60+(y:Int) by rw[IntKind.wrap_i64];omega];exact j.out _ _ (AE.next (W:=W) c 5 (.int .i64 (60+(y:Int))) (Av 5 f rfl) (fun _ _ h=>h) ⟨y,u,rfl⟩ (d.af (by decide) fun _ h=>h))
 case o6 =>
  rintro s L _ W q l ⟨v,rfl,c,d⟩ K j;have Z:v 2=_:=c 2 (l 2 (by simp));obtain⟨y,u,aa⟩:=c 5 (l 5 (by simp));have ab:(An a [39,40,41,42,43,44,45] v).eval (.tmp 41)=_:=(Ao 2 f rfl (by omega)).trans Z;have ac:(An a [39,40,41,42,43,44,45] v).eval (.tmp 44)=_:=(Ao 5 f rfl (by omega)).trans aa;refine BJ.mk ?_;unfold aJ;simp only[aE,ZW,ab,ac];go_simp;exact j.out _ _ (AE.next (W:=W) c 6 (.bool (decide ((n:Int)<60+(y:Int)))) (Av 6 f rfl) (fun _ _ h=>h) ⟨_,rfl,fun h=>by have:=of_decide_eq_true h;omega⟩ (d.af (by decide) fun _ h=>h))
structure IV(B p:Nat)(w1:World)(S:Nat)(kk:Nat)(v:Value)(bs:List BAt)(W:World):Prop where
 rd:Rd B W p kk
 gr:w1.grownBy W (aB p)
 box:W.heap[S]?=aB (aO #[v] 25 (0,0))
 Sge:w1.heap.size<=S
 plt:p<w1.heap.size
 bin:Au W v bs
 abv:∀q,q<w1.heap.size->A7 q v bs
 farS:A7 S v bs
 ah:∀b∈bs,E9 b.name b.ls
theorem IV.Slt(h:IV B p w1 S kk v bs W):S<W.heap.size:=(aG.1 h.box).1
theorem IV.grown(h:IV B p w1 S kk v bs W)(g:W.grownBy W' (aB p))(r:Rd B W' p kk'):IV B p w1 S kk' v bs W' :=
 ⟨r,Ah h.gr g,BY.grown g S _ (aQ h.plt h.Sge) h.box,h.Sge,h.plt,h.bin.aj (h.abv p h.plt) g,h.abv,h.farS,h.ah⟩
theorem IV.V(h:IV B p w1 S kk v bs W)(a:Below W.heap.size W W'):IV B p w1 S kk v bs W' :=
 ⟨h.rd.V a,Ah h.gr (Ar a _),by rw[a.block S h.Slt];exact h.box,h.Sge,h.plt,h.bin.V a,h.abv,h.farS,h.ah⟩
theorem IV.turn{R:Nat}(h:IV B p w1 S kk v bs W)(a:W.grownBy W' (aB R))(c:w1.heap.size<=R)(d:R≠S)(f:A7 R v bs):IV B p w1 S kk v bs W':=by
 have j:=aQ h.plt c;refine⟨AJ.rd h.rd (AJ.ag (S:=[R]) a (fun g a=>by cases a;simp)) (fun i b=>by rw[aK.1 b];exact j),⟨a.os.trans h.gr.os,a.tape.trans h.gr.tape,a.output.trans h.gr.output,aP h.gr.size a.size,fun i b k=>?_⟩,(a.block S h.Slt (by intro e;exact d (bD e).symm)).trans h.box,h.Sge,h.plt,h.bin.aj f a,h.abv,h.farS,h.ah⟩;have:=h.gr.size;rw[a.block i (by omega) (by intro e;have:=bD e;omega)];exact h.gr.block i b k
theorem IV.put(h:IV B p w1 S kk v bs W)(d:Au W v' bs')(e:∀q,q<w1.heap.size->A7 q v' bs')(b:A7 S v' bs')(f:∀x∈bs',E9 x.name x.ls):IV B p w1 S kk v' bs' (W.setRow S #[v']):=by
 have c:=Br W S #[v'];have j:=aQ h.plt h.Sge;refine⟨AJ.rd h.rd (AJ.ag (S:=[S]) c (fun g k=>by cases k;simp)) (fun i a=>by rw[aK.1 a];exact j),⟨h.gr.os,h.gr.tape,h.gr.output,by rw[bE];exact h.gr.size,fun i a l=>?_⟩,bJ _ _ _ _ _ _ h.box,h.Sge,h.plt,d.aj b c,e,b,f⟩;have:=h.Sge;rw[bB _ _ _ _ (by omega)];exact h.gr.block i a l
theorem IV.out{a:Option Addr}{e:List BAt}(h:IV B p w1 S kk v bs W)(z:w1.heap.size=w.heap.size+2)(f:w.grownBy w1 (aB p))(A:p<w.heap.size)(r:kk<=k+d)(C:bs.length<=62)(l:e.map BAt.I=bs.map BAt.I)(s:Ax W.heap.size W' (aA a n c) e)(t:Below W.heap.size W W')(cs:Array Value):Kt d B p k w (aX (bI #[aA a n c])) (W'.setRow (w.heap.size+1) cs):=by
 have u:=Br W' (w.heap.size+1) cs;have b:=h.V t;have D:=h.gr.size;have m:=(s.setRow (w.heap.size+1) (by omega) cs).mono (show w.heap.size<=W.heap.size by omega);have E:e.length=bs.length:=by have:=congrArg bQ l;simpa using this
 refine⟨a,n,c,e,kk,rfl,r,AJ.rd b.rd (AJ.ag (S:=[w.heap.size+1]) u (fun g x=>by cases x;simp)) (fun i j=>by rw[aK.1 j];omega),⟨b.gr.os.trans f.os,b.gr.tape.trans f.tape,b.gr.output.trans f.output,?_,fun i j o=>?_⟩,m.bin,⟨A3.same ⟨by omega,h.ah⟩ l,by omega⟩,fun q y=>m.aj y⟩
 ·rw[bE];have:=b.gr.size;omega
 ·rw[bB _ _ _ _ (by omega),b.gr.block i (by omega) o];exact f.block i j o
structure Lk(c S Y:Nat)(bk bn:ByteArray)(bv:Value)(ls:List LAt)(W:World):Prop where
 box:W.heap[Y]?=aB (aO #[.string bk,.string bn,bv] 46 (0,0))
 cY:c<=Y
 YS:Y≠S
 free:CH c [S,Y] W bv ls
 ah:E9 bn ls
theorem Lk.lt(h:Lk c S Y bk bn bv ls W):Y<W.heap.size:=(aG.1 h.box).1
theorem Lk.V(h:Lk c S Y bk bn bv ls W)(a:Below W.heap.size W W'):Lk c S Y bk bn bv ls W' :=
 ⟨(a.block Y h.lt).trans h.box,h.cY,h.YS,h.free.V a,h.ah⟩
theorem Lk.grown(h:Lk c S Y bk bn bv ls W)(a:W.grownBy W' (aB p))(b:p<c):Lk c S Y bk bn bv ls W':=by
 have:=h.cY;exact⟨(a.block Y h.lt (by intro e;have:=bD e;omega)).trans h.box,h.cY,h.YS,h.free.grown a (.inl b),h.ah⟩
theorem Lk.put(h:Lk c S Y bk bn bv ls W)(a:W.grownBy W' (aB Y))(b:W'.heap[Y]?=aB (aO #[.string bk',.string bn',bv'] 46 (0,0)))(d:CH c [S,Y] W bv' ls')(e:E9 bn' ls'):Lk c S Y bk' bn' bv' ls' W' :=
 ⟨b,h.cY,h.YS,d.grown a (.inr (by simp)),e⟩
variable {b0 off sc:Nat}{kind name:ByteArray}
def L8: Oper := ⟨aB 53, .load 46 (.tmp 7), 46, "l8_draw.go:355", #[], aC⟩
def L9: Oper := ⟨aB 54, .fieldAddr 46 (.tmp 7) 2, 0, "l8_draw.go:355", #[], aC⟩
def LA: Oper := ⟨aB 55, .load 44 (.tmp 54), 44, "l8_draw.go:355", #[⟨1, .data⟩], aC⟩
def LC: Oper := ⟨aB 56, .move (.tmp 0), 65, "l8_draw.go:355", #[], aC⟩
def LD: Oper := ⟨aB 57, .fieldAddr 46 (.tmp 7) 2, 0, "l8_draw.go:355", #[], aC⟩
def LE: Oper := ⟨aB 58, .load 44 (.tmp 57), 44, "l8_draw.go:355", #[⟨4, .data⟩], aC⟩
def Ru: Oper := ⟨aB 59, .call { callee := .builtin .len, args := #[.tmp 58], argTypes := #[44] }, 3, "l8_draw.go:355", #[⟨5, .data⟩], aC⟩
def LF: Oper := ⟨aB 60, .call { callee := .value (.func 44), args := #[.tmp 56, .tmp 59], argTypes := #[65, 3] }, 3, "l8_draw.go:355", #[⟨3, .data⟩, ⟨6, .data⟩], aC⟩
def LG: Oper := ⟨aB 61, .indexAddr 44 (.tmp 55) (.tmp 60), 0, "l8_draw.go:355", #[⟨2, .data⟩, ⟨7, .data⟩], aC⟩
def LH: Oper := ⟨aB 62, .fieldAddr 115 (.tmp 61) 0, 0, "l8_draw.go:355", #[⟨8, .data⟩], aC⟩
def JJ: Oper := ⟨aB 63, .load 9 (.tmp 62), 9, "l8_draw.go:355", #[⟨9, .data⟩], aC⟩
def JK: Oper := ⟨aB 64, .call { callee := .value (.func 107), args := #[.tmp 53, .tmp 63], argTypes := #[46, 9] }, 46, "l8_draw.go:355", #[⟨0, .data⟩, ⟨10, .data⟩, ⟨7, .chain⟩], aC⟩
def JM: Oper := ⟨aC, .store 46 (.tmp 7) (.tmp 64), 0, "l8_draw.go:355", #[⟨11, .data⟩, ⟨11, .chain⟩, ⟨0, .phase⟩, ⟨1, .phase⟩, ⟨2, .phase⟩, ⟨3, .phase⟩, ⟨4, .phase⟩, ⟨5, .phase⟩, ⟨6, .phase⟩, ⟨7, .phase⟩, ⟨8, .phase⟩, ⟨9, .phase⟩, ⟨10, .phase⟩, ⟨11, .phase⟩], aC⟩
def Aed:List Oper:=[L8,L9,LA,LC,LD,LE,Ru,LF,LG,LH,JJ,JK,JM]
def GQ(c S Y p n b0 off sc:Nat)(kind name:ByteArray)(i:Nat)(x:Value)(W:World):Prop:=match i with
 | 0=>x=bI #[.string kind,.string name,(aA (aB ⟨b0,off,aC⟩) n sc)]
 | 1=>x=aD (aB ⟨Y,2,aC⟩)
 | 2=>x=(aA (aB ⟨b0,off,aC⟩) n sc)
 | 3=>x=aD (aB ⟨p,0,aC⟩)
 | 4=>x=aD (aB ⟨Y,2,aC⟩)
 | 5=>x=(aA (aB ⟨b0,off,aC⟩) n sc)
 | 6=>x=.int .i64 (n:Int)
 | 7=>∃y:Nat,y<n/\x=.int .i64 (y:Int)
 | 8=>∃y:Nat,y<n/\x=aD (aB ⟨b0,off+y*2,aC⟩)
 | 9=>∃y:Nat,y<n/\x=aD (aB ⟨b0,off+y*2,aC⟩)
 | 10=>∃key:ByteArray,x=.string key
 | 11=>∃(a:Option Addr) (m b:Nat) (ls':List LAt),x=bI #[.string kind,.string name,aA a m b]/\CH c [S,Y] W (aA a m b) ls'/\E9 name ls'
 | _=>True
theorem GQ.af(k:∀v ls,CH c [S,Y] W v ls->CH c [S,Y] W' v ls):∀(i:Nat) (x:Value),GQ c S Y p n b0 off sc kind name i x W->GQ c S Y p n b0 off sc kind name i x W':=by
 intro i x h;unfold GQ at *;split <;> simp only at h
 all_goals first|exact h|trivial|(obtain⟨a,m,b,ls',e,h1,d⟩:=h;exact⟨a,m,b,ls',e,k _ _ h1,d⟩)
theorem TM{g:Nat}{key:ByteArray}{a:Option Addr}(h:Lk c S Y bk bn bv ls W)(j:S<W.heap.size)(k:c<=W.heap.size)(i:Below W.heap.size W W')(f:W'.ownsRow W.heap.size 115 2 (aA a n g) (ls.filter (Dw key)).length ((ls.filter (Dw key)).flatMap LAt.cells)):CH c [S,Y] W' (aA a n g) (ls.filter (Dw key))/\E9 bn (ls.filter (Dw key)):=by
 have l:=h.lt;have e:∀x∈ls.filter (Dw key),x∈ls:=fun x b=>(List.mem_filter.1 b).1
 refine⟨⟨⟨AF f,fun x b=>(h.free.1.2 x (e x b)).V i⟩,fun q d=>⟨Bx.above f ?_,fun x b=>(h.free.2.1 q d).2 x (e x b)⟩,fun q d=>⟨Bx.above f (by omega),fun x b=>(h.free.2.2 q d).2 x (e x b)⟩⟩,h.ah.1,aP (List.length_filter_le _ _) h.ah.2.1,fun x b=>h.ah.2.2 x (e x b)⟩;simp only[aS,aY,or_false]at d;rcases d with rfl|rfl <;> omega
theorem TN(h:Au w v bs)(a:w.heap.size<=q):A7 q v bs:=⟨Bx.of_lt h.1 (by decide) a,fun x b=>Ap.fresh (h.2 x b) a⟩
theorem XS{cs:List BAt}(R:IV B p w1 S kk v cs W0)(Z:Lk w1.heap.size S Y kind name (aA (aB ⟨b0,off,aC⟩) n sc) ls W0)(aa:A7 Y v cs)(ab:ls.length=n)(ac:n<=1000)(ad:1<=n)(bd:kk<=900000)(ae:a.eval (.tmp 0)=(aD (aB ⟨p,0,aC⟩)))(J:a.eval (.tmp 7)=(aD (aB ⟨Y,0,aC⟩)))(be:a.tmps.size=94)
  (af:∀u z m A ls' k' W' a',a'=An a [53,54,55,56,57,58,59,60,61,62,63,64] u->k'<=kk+1->IV B p w1 S k' v cs W'->Lk w1.heap.size S Y kind name (aA z m A) ls' W'->Q .normal a' W'):(bL 14 Aed.toArray true).wp prog Q a W0:=by
 have l:([53,54,55,56,57,58,59,60,61,62,63,64]:List Nat).Nodup:=by decide
 have U:=R.plt;refine Bu [53,54,55,56,57,58,59,60,61,62,63,64] (GQ w1.heap.size S Y p n b0 off sc kind name) (TF (fun k W=>IV B p w1 S k v cs W/\Lk w1.heap.size S Y kind name (aA (aB ⟨b0,off,aC⟩) n sc) ls W) 7 kk 1) 12 13 [0,1,2,3,4,5,6,7,8,9,10,11,12] (by kernel_rfl) rfl (by decide) (by kernel_rfl) ?h1 ⟨_,aN _,R.V (aR _ _).drew,Z.V (aR _ _).drew⟩ ?hall;case h1 =>
  intro i x W bf;unfold GQ;split <;> first|omega|trivial
 refine Ak.ae (o:=L8) [] (by kernel_rfl) (by decide) (by kernel_rfl) rfl ?o0 (Ak.ae (o:=L9) [] (by kernel_rfl) (by decide) (by kernel_rfl) rfl ?o1 (Ak.ae (o:=LA) [1] (by kernel_rfl) (by decide) (by kernel_rfl) rfl ?o2 (Ak.ae (o:=LC) [] (by kernel_rfl) (by decide) (by kernel_rfl) rfl ?o3 (Ak.ae (o:=LD) [] (by kernel_rfl) (by decide) (by kernel_rfl) rfl ?o4 (Ak.ae (o:=LE) [4] (by kernel_rfl) (by decide) (by kernel_rfl) rfl ?o5 (Ak.ae (o:=Ru) [5] (by kernel_rfl) (by decide) (by kernel_rfl) rfl ?o6 (Ak.ae (o:=LF) [3,6] (by kernel_rfl) (by decide) (by kernel_rfl) rfl ?o7 (Ak.ae (o:=LG) [2,7] (by kernel_rfl) (by decide) (by kernel_rfl) rfl ?o8 (Ak.ae (o:=LH) [8] (by kernel_rfl) (by decide) (by kernel_rfl) rfl ?o9 (Ak.ae (o:=JJ) [9] (by kernel_rfl) (by decide) (by kernel_rfl) rfl ?o10 (Ak.ae (o:=JK) [0,10,7] (by kernel_rfl) (by decide) (by kernel_rfl) rfl ?o11 (Ak.lastQ (o:=JM) [11,11,0,1,2,3,4,5,6,7,8,9,10,11] (by kernel_rfl) (by kernel_rfl) rfl ?o12))))))))))));case o0 =>
  rintro s L _ W r q ⟨v,rfl,c,f⟩ K j;obtain⟨k',C,t,g⟩:=f.get;have E:=Aa g.box 0;have F:=Aa g.box 1;have G:=Aa g.box 2;simp only[aL,aF,aI]at E F G;have H:=(A6 (v:=v) (show 7 ∉ ([53,54,55,56,57,58,59,60,61,62,63,64]:List Nat) by decide)).trans J;have d : aE (An a [53, 54, 55, 56, 57, 58, 59, 60, 61, 62, 63, 64] v).eval L8 = aE (aH ⟨#[undef], []⟩) ⟨aB 0, .load 46 (.const (aD (aB ⟨Y, 0, aC⟩))), 0, "", #[], aC⟩ := by simp only[aE, Ae, L8, H]
  refine BJ.mk ?_;unfold aJ;rw[d];clear d;go_simp;exact j.out _ _ (AE.next (W:=W) c 0 (bI #[.string kind,.string name,(aA (aB ⟨b0,off,aC⟩) n sc)]) (Av 0 l rfl) (GQ.af (fun _ _ h=>h)) rfl (f.af (by decide) fun _ h=>h))
 case o1 =>
  rintro s L _ W r q ⟨v,rfl,c,f⟩ K j;have H:=(A6 (v:=v) (show 7 ∉ ([53,54,55,56,57,58,59,60,61,62,63,64]:List Nat) by decide)).trans J;have d : aE (An a [53, 54, 55, 56, 57, 58, 59, 60, 61, 62, 63, 64] v).eval L9 = aE (aH ⟨#[undef], []⟩) ⟨aB 0, .fieldAddr 46 (.const (aD (aB ⟨Y, 0, aC⟩))) 2, 0, "", #[], aC⟩ := by simp only[aE, Ae, L9, H]
  refine BJ.mk ?_;unfold aJ;rw[d];clear d;go_simp;exact j.out _ _ (AE.next (W:=W) c 1 (aD (aB ⟨Y,2,aC⟩)) (Av 1 l rfl) (GQ.af (fun _ _ h=>h)) rfl (f.af (by decide) fun _ h=>h))
 case o2 =>
  rintro s L _ W r q ⟨v,rfl,c,f⟩ K j;obtain⟨k',C,t,g⟩:=f.get;have E:=Aa g.box 0;have F:=Aa g.box 1;have G:=Aa g.box 2;simp only[aL,aF,aI]at E F G;have ag:(An a [53,54,55,56,57,58,59,60,61,62,63,64] v).eval (.tmp 54)=_:=(Ao 1 l rfl (by omega)).trans (c 1 (q 1 (by simp)));have d : aE (An a [53, 54, 55, 56, 57, 58, 59, 60, 61, 62, 63, 64] v).eval LA = aE (aH ⟨#[undef], []⟩) ⟨aB 0, .load 44 (.const (aD (aB ⟨Y, 2, aC⟩))), 0, "", #[], aC⟩ := by simp only[aE, Ae, LA, ag]
  refine BJ.mk ?_;unfold aJ;rw[d];clear d;go_simp;exact j.out _ _ (AE.next (W:=W) c 2 (aA (aB ⟨b0,off,aC⟩) n sc) (Av 2 l rfl) (GQ.af (fun _ _ h=>h)) rfl (f.af (by decide) fun _ h=>h))
 case o3 =>
  rintro s L _ W r q ⟨v,rfl,c,f⟩ K j;have ah:=(A6 (v:=v) (show 0 ∉ ([53,54,55,56,57,58,59,60,61,62,63,64]:List Nat) by decide)).trans ae;have d : aE (An a [53, 54, 55, 56, 57, 58, 59, 60, 61, 62, 63, 64] v).eval LC = aE (aH ⟨#[undef], []⟩) ⟨aB 0, .move (.const (aD (aB ⟨p, 0, aC⟩))), 0, "", #[], aC⟩ := by simp only[aE, Ae, LC, ah]
  refine BJ.mk ?_;unfold aJ;rw[d];clear d;go_simp;exact j.out _ _ (AE.next (W:=W) c 3 (aD (aB ⟨p,0,aC⟩)) (Av 3 l rfl) (GQ.af (fun _ _ h=>h)) rfl (f.af (by decide) fun _ h=>h))
 case o4 =>
  rintro s L _ W r q ⟨v,rfl,c,f⟩ K j;have H:=(A6 (v:=v) (show 7 ∉ ([53,54,55,56,57,58,59,60,61,62,63,64]:List Nat) by decide)).trans J;have d : aE (An a [53, 54, 55, 56, 57, 58, 59, 60, 61, 62, 63, 64] v).eval LD = aE (aH ⟨#[undef], []⟩) ⟨aB 0, .fieldAddr 46 (.const (aD (aB ⟨Y, 0, aC⟩))) 2, 0, "", #[], aC⟩ := by simp only[aE, Ae, LD, H]
  refine BJ.mk ?_;unfold aJ;rw[d];clear d;go_simp;exact j.out _ _ (AE.next (W:=W) c 4 (aD (aB ⟨Y,2,aC⟩)) (Av 4 l rfl) (GQ.af (fun _ _ h=>h)) rfl (f.af (by decide) fun _ h=>h))
 case o5 =>
  rintro s L _ W r q ⟨v,rfl,c,f⟩ K j;obtain⟨k',C,t,g⟩:=f.get;have E:=Aa g.box 0;have F:=Aa g.box 1;have G:=Aa g.box 2;simp only[aL,aF,aI]at E F G;have ai:(An a [53,54,55,56,57,58,59,60,61,62,63,64] v).eval (.tmp 57)=_:=(Ao 4 l rfl (by omega)).trans (c 4 (q 4 (by simp)));have d : aE (An a [53, 54, 55, 56, 57, 58, 59, 60, 61, 62, 63, 64] v).eval LE = aE (aH ⟨#[undef], []⟩) ⟨aB 0, .load 44 (.const (aD (aB ⟨Y, 2, aC⟩))), 0, "", #[], aC⟩ := by simp only[aE, Ae, LE, ai]
  refine BJ.mk ?_;unfold aJ;rw[d];clear d;go_simp;exact j.out _ _ (AE.next (W:=W) c 5 (aA (aB ⟨b0,off,aC⟩) n sc) (Av 5 l rfl) (GQ.af (fun _ _ h=>h)) rfl (f.af (by decide) fun _ h=>h))
 case o6 =>
  rintro s L _ W r q ⟨v,rfl,c,f⟩ K j;have aj:(An a [53,54,55,56,57,58,59,60,61,62,63,64] v).eval (.tmp 58)=_:=(Ao 5 l rfl (by omega)).trans (c 5 (q 5 (by simp)));refine BJ.mk ?_;unfold aJ;simp only[aE,Ru,bS,aV,aW,aZ,aj];go_simp;exact j.out _ _ (AE.next (W:=W) c 6 (.int .i64 (n:Int)) (Av 6 l rfl) (GQ.af (fun _ _ h=>h)) rfl (f.af (by decide) fun _ h=>h))
 case o7 =>
  rintro s L _ W r q ⟨v,rfl,c,f⟩ K j;have ak:(An a [53,54,55,56,57,58,59,60,61,62,63,64] v).eval (.tmp 56)=_:=(Ao 3 l rfl (by omega)).trans (c 3 (q 3 (by simp)));have al:(An a [53,54,55,56,57,58,59,60,61,62,63,64] v).eval (.tmp 59)=_:=(Ao 6 l rfl (by omega)).trans (c 6 (q 6 (by simp)));obtain⟨k',C,t,g⟩:=f.get0 r;have am:=A1 B p k' n W t.rd ad ac (by omega);have d : aE (An a [53, 54, 55, 56, 57, 58, 59, 60, 61, 62, 63, 64] v).eval LF = aE (aH ⟨#[undef], []⟩) ⟨aB 0, .call { callee := .value (.func 44), args := #[.const (aD (aB ⟨p, 0, aC⟩)), .const (.int .i64 (n : Int))], argTypes := #[65, 3] }, 0, "", #[], aC⟩ := by simp only[aE, Ae, LF, bS, Cu, aV, aW, aZ, ak, al]
  refine BJ.mk ?_;unfold aJ;rw[d];clear d;go_simp;refine am.mono ?_;rintro e W' ⟨y,I,rfl,an,O⟩;exact j.out _ _ (AE.next (W:=W) c 7 (.int .i64 (y:Int)) (Av 7 l rfl) (GQ.af (fun _ _ h=>h.grown O (.inl U))) ⟨y,I,rfl⟩ (TF.put C (aN _) ⟨t.grown O an,g.grown O U⟩))
 case o8 =>
  rintro s L _ W r q ⟨v,rfl,c,f⟩ K j;obtain⟨y,I,ao⟩:=c 7 (q 7 (by simp));have ap:(An a [53,54,55,56,57,58,59,60,61,62,63,64] v).eval (.tmp 55)=_:=(Ao 2 l rfl (by omega)).trans (c 2 (q 2 (by simp)));have aq:(An a [53,54,55,56,57,58,59,60,61,62,63,64] v).eval (.tmp 60)=_:=(Ao 7 l rfl (by omega)).trans ao;have bg:(0:Int)<=(y:Int):=by omega
  have bh:(y:Int)<(n:Int):=by omega
  have d : aE (An a [53, 54, 55, 56, 57, 58, 59, 60, 61, 62, 63, 64] v).eval LG = aE (aH ⟨#[undef], []⟩) ⟨aB 0, .indexAddr 44 (.const (aA (aB ⟨b0, off, aC⟩) n sc)) (.const (.int .i64 (y : Int))), 0, "", #[], aC⟩ := by simp only[aE, Ae, LG, ap, aq]
  refine BJ.mk ?_;unfold aJ;rw[d];clear d;go_simp;exact j.out _ _ (AE.next (W:=W) c 8 (aD (aB ⟨b0,off+y*2,aC⟩)) (Av 8 l rfl) (GQ.af (fun _ _ h=>h)) ⟨y,I,rfl⟩ (f.af (by decide) fun _ h=>h))
 case o9 =>
  rintro s L _ W r q ⟨v,rfl,c,f⟩ K j;obtain⟨y,I,ar⟩:=c 8 (q 8 (by simp));have au:(An a [53,54,55,56,57,58,59,60,61,62,63,64] v).eval (.tmp 61)=_:=(Ao 8 l rfl (by omega)).trans ar;have d : aE (An a [53, 54, 55, 56, 57, 58, 59, 60, 61, 62, 63, 64] v).eval LH = aE (aH ⟨#[undef], []⟩) ⟨aB 0, .fieldAddr 115 (.const (aD (aB ⟨b0, off + y*2, aC⟩))) 0, 0, "", #[], aC⟩ := by simp only[aE, Ae, LH, au]
  refine BJ.mk ?_;unfold aJ;rw[d];clear d;go_simp;exact j.out _ _ (AE.next (W:=W) c 9 (aD (aB ⟨b0,off+y*2,aC⟩)) (Av 9 l rfl) (GQ.af (fun _ _ h=>h)) ⟨y,I,rfl⟩ (f.af (by decide) fun _ h=>h))
 case o10 =>
  rintro s L _ W r q ⟨v,rfl,c,f⟩ K j;obtain⟨y,I,av⟩:=c 9 (q 9 (by simp));have aw:(An a [53,54,55,56,57,58,59,60,61,62,63,64] v).eval (.tmp 62)=_:=(Ao 9 l rfl (by omega)).trans av;obtain⟨k',C,t,g⟩:=f.get;obtain⟨D,x,T,ax,ay⟩:=AC ls y (by omega);have V:=g.free.1.1;rw[ab,ax]at V;obtain⟨b',bi,az,a0,X⟩:=V.ai;cases az
  simp only[ay]at a0 X;clear X;generalize x.key=xk at *;have d : aE (An a [53, 54, 55, 56, 57, 58, 59, 60, 61, 62, 63, 64] v).eval JJ = aE (aH ⟨#[undef], []⟩) ⟨aB 0, .load 9 (.const (aD (aB ⟨b0, off + y*2, aC⟩))), 0, "", #[], aC⟩ := by simp only[aE, Ae, JJ, aw]
  refine BJ.mk ?_;unfold aJ;rw[d];clear d;go_simp;exact j.out _ _ (AE.next (W:=W) c 10 (.string xk) (Av 10 l rfl) (GQ.af (fun _ _ h=>h)) ⟨_,rfl⟩ (f.af (by decide) fun _ h=>h))
 case o11 =>
  rintro s L _ W r q ⟨v,rfl,c,f⟩ K j;obtain⟨key,a1⟩:=c 10 (q 10 (by simp));have a2:(An a [53,54,55,56,57,58,59,60,61,62,63,64] v).eval (.tmp 53)=_:=(Ao 0 l rfl (by omega)).trans (c 0 (q 0 (by simp)));have a3:(An a [53,54,55,56,57,58,59,60,61,62,63,64] v).eval (.tmp 63)=_:=(Ao 10 l rfl (by omega)).trans a1;obtain⟨k',C,t,g⟩:=f.get;have a4:=Of (b:=⟨kind,name,(aA (aB ⟨b0,off,aC⟩) n sc),ls⟩) key (w:=W) g.free.1 g.ah.2;have a5:=t.gr.size;have d : aE (An a [53, 54, 55, 56, 57, 58, 59, 60, 61, 62, 63, 64] v).eval JK = aE (aH ⟨#[undef], []⟩) ⟨aB 0, .call { callee := .value (.func 107), args := #[.const (bI #[.string kind, .string name, (aA (aB ⟨b0, off, aC⟩) n sc)]), .const (.string key)], argTypes := #[46, 9] }, 0, "", #[], aC⟩ := by simp only[aE, Ae, JK, bS, Cu, aV, aW, aZ, a2, a3]
  refine BJ.mk ?_;unfold aJ;rw[d];clear d;go_simp;refine a4.mono ?_;rintro e W' ⟨z,m,A,rfl,a6,M⟩;have N:=TM g t.Slt a5 M a6;exact j.out _ _ (AE.next (W:=W) c 11 (bI #[.string kind,.string name,aA z m A]) (Av 11 l rfl) (GQ.af (fun _ _ h=>h.V M)) ⟨z,m,A,_,rfl,N.1,N.2⟩ (f.af (by decide) fun _ h=>⟨h.1.V M,h.2.V M⟩))
 case o12 =>
  rintro s L _ W r q ⟨v,rfl,c,f⟩ K j;obtain⟨z,m,A,a7,a8,N,a9⟩:=c 11 (q 11 (by simp));have ba:(An a [53,54,55,56,57,58,59,60,61,62,63,64] v).eval (.tmp 64)=_:=(Ao 11 l rfl (by omega)).trans a8;have H:=(A6 (v:=v) (show 7 ∉ ([53,54,55,56,57,58,59,60,61,62,63,64]:List Nat) by decide)).trans J;obtain⟨k',C,t,g⟩:=f.get;have E:=Aa g.box 0;have F:=Aa g.box 1;have G:=Aa g.box 2;simp only[aL,aF,aI]at E F G;have bj:=Ac g.box 0;have bk:=Ac g.box 1;have bl:=Ac g.box 2;have P:=SQ (k':=kind) (n':=name) (v':=aA z m A) g.box;have bb:=Ab (t.turn P.2 g.cY g.YS aa);have bc:=Ab (g.put P.2 P.1 N a9);have d : aE (An a [53, 54, 55, 56, 57, 58, 59, 60, 61, 62, 63, 64] v).eval JM = aE (aH ⟨#[undef], []⟩) ⟨aB 0, .store 46 (.const (aD (aB ⟨Y, 0, aC⟩))) (.const (bI #[.string kind, .string name, aA z m A])), 0, "", #[], aC⟩ := by simp only[aE, Ae, JM, H, ba]
  refine BJ.mk ?_;unfold aJ;rw[d];clear d;go_simp;exact j.out _ _ (aU (af _ z m A a7 k' _ _ rfl C bb.out bc.out))
