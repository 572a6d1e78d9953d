import Derived.Test.YtpdahhnjhggocaaGreatDoorMu13
open Go.Proofs.Tryz
open Go.Value renaming slice->aA,pointer->aD,agg->bE,string->cD
open Option renaming some->aB,none->aC
open List renaming getElem?_cons_zero->aE,getElem?_cons_succ->aH,mem_singleton->aJ,getElem?_toArray->aK,mem_cons->aR,map_toArray->aT,map_cons->aU,mem_map_of_mem->aV,map_nil->aX,mem_append->aZ,not_mem_nil->bC,length_append->bD,length_cons->bG,mem_cons_of_mem->bI,mem_map->bJ,setIfInBounds_toArray->bM,length->bR,set_cons_zero->bT,set_cons_succ->bU,mem_cons_self->bV,flatMap_cons->bY,cons_append->bZ,nil_append->cA
open Array renaming getElem?_eq_some_iff->aF
open Go.Act renaming eval->aG
open Go.Oper renaming wp->aI,mk->bQ
open Go.World renaming block_lt_of_cell?->aL,grownBy_alloc->aY,ownsRow_lit->bS,size_alloc->bX
open Nat renaming le_refl->aM,lt_of_lt_of_le->aO,le_trans->aP,add_zero->bK,zero_le->bL
open Go.Obj renaming cells->aN
open Go.RowKit.Below renaming refl->aQ
open Go.NoPanic renaming normal->aS
open Go.Ending renaming returned->aW
open Option.some renaming inj->bA
open Go.World.ownsRow renaming kept->bB
open Go.Code renaming region->bF
open Go.Operand renaming tmp->bH
open Go.Op renaming store->bN
open Go.ByteArray renaming toList_eq->bO
open Go.Lib renaming decDigits->bP,cell_of_heap->cB
open Bool renaming false_eq_true->bW
open Exists renaming intro->cC
open UInt8 renaming ofNat->cE
namespace Go.Proofs.YtpdahhnjhggocaaGreatDoor
open Go.RowKit
set_option maxHeartbeats 16000000
set_option maxRecDepth 100000
variable {p t B kk kk' k:Nat}{W W' w1 w:World}{v':Value}{ls':List LAt}
structure Ahg(B p:Nat)(w:World)(n:Nat)(T:List (Nat × List ByteArray))(W:World):Prop where
 rd:Rd B W p n
 gr:w.grownBy W (aB p)
 plt:p<w.heap.size
 tabs:∀x∈T,W.heap[x.1]?=aB (aN (x.2.map cD).toArray 9 (0,0))/\p<x.1
def FC(b:BAt):Prop:=b.aa.size<=20/\∀x∈b.ls,x.key.size<=20
theorem VE{k:ByteArray}(h:1<=(rulesOf k).length):k.size<=20:=by
 have e:k.size=k.toList.length:=by rw[bO];simp
 rw[e];unfold rulesOf at h;split at h
 ·rename_i h1;rw[h1];decide
 ·split at h
  ·rename_i h1;rw[h1];decide
  ·split at h
   ·rename_i h1;rw[h1];decide
   ·simp at h
theorem Yr{k:ByteArray}{z:Plain}(h:z∈rulesOf k):z.1.size<=20:=by
 unfold rulesOf at h;split at h
 ·exact(show ∀z∈teamRules,z.1.size<=20 by decide) z h
 ·split at h
  ·exact(show ∀z∈berthRules,z.1.size<=20 by decide) z h
  ·split at h
   ·exact(show ∀z∈serviceRules,z.1.size<=20 by decide) z h
   ·cases h
def Aa1(B p k:Nat)(w:World)(e:Ending)(w':World):Prop:=∃(b:BAt) (k':Nat),e=aW (bE #[.string b.aa,.string b.name,b.v])/\k'<=k+100/\Rd B w' p k'/\w.grownBy w' (aB p)/\(An w' b.v b.ls/\∀q,q<w.heap.size->Ay q b.v b.ls)/\b.name.size<=4/\b.ls.length<=7/\(∀x∈b.ls,x.ws.length<=3/\∀y∈x.ws,y.length<=200)/\FC b
def Ag5(B p k:Nat)(w1:World)(q:Value)(a:World):Prop:=∃(R:Nat) (kind name:ByteArray),q=aD (aB ⟨R,0,aC⟩)/\a.heap[R]?=aB (aN #[.string kind,.string name,aA aC 0 0] 46 (0,0))/\(1<=(rulesOf kind).length/\name.size<=4/\w1.heap.size<=R)/\Rd B a p (k+2)/\w1.grownBy a (aB p)
def Jc:List ByteArray:=[⟨#[116,101,97,109]⟩,⟨#[98,101,114,116,104]⟩,⟨#[115,101,114,118,105,99,101]⟩,⟨#[115,101,114,118,105,99,101]⟩]
def Jd:List ByteArray:=[⟨#[97]⟩,⟨#[98]⟩,⟨#[119,101,98]⟩,⟨#[100,98,45,49]⟩]
theorem Af3(u:ByteArray)(h:u∈Jc):1<=(rulesOf u).length:=by
 unfold Jc at h;simp only[aR,bC,or_false]at h;rcases h with rfl | rfl | rfl | rfl <;> simp[rulesOf,bO,teamRules,berthRules,serviceRules]
theorem Af4(u:ByteArray)(h:u∈Jd):u.size<=4:=by
 unfold Jd at h;simp only[aR,bC,or_false]at h;rcases h with rfl | rfl | rfl | rfl <;> decide
def Hx(p:Nat)(W:World)(t:Nat)(l:List ByteArray):Prop:=W.heap[t]?=aB (aN (l.map cD).toArray 9 (0,0))/\p<t
def BV(p:Nat)(W W':World):Prop:=∀t o,p<t->W.heap[t]?=aB o->W'.heap[t]?=aB o
theorem BV.grown(h:W.grownBy W' (aB p)):BV p W W':=fun t o b a=>by
 rw[h.block t (aF.1 a).1 (by intro e;cases e;omega)];exact a
theorem BV.alloc(p:Nat)(W:World)(o:Obj):BV p W (W.alloc o):=fun t b _ a=>by rw[Cj _ _ _ (aF.1 a).1];exact a
theorem BV.refl(p:Nat)(W:World):BV p W W:=fun _ _ _ h=>h
theorem Hx.af{l:List ByteArray}(h:Hx p W t l)(k:BV p W W'):Hx p W' t l:=⟨k t _ h.2 h.1,h.2⟩
theorem Hx.cell{l:List ByteArray}(h:Hx p W t l){y:Nat}(a:y<l.length):∃u∈l,W.cell? ⟨t,y,aC⟩=aB (.string u):=by
 refine⟨l[y],List.getElem_mem _,?_⟩;rw[Ab h.1 y];simp[a]
def Af5:Obj:=aN #[.string ⟨#[]⟩,.string ⟨#[]⟩,aA aC 0 0] 46 (0,0)
def Sr(p:Nat)(w1:World)(i:Nat)(x:Value)(W:World):Prop:=match i with
 | 0=>∃t,x=aA (aB ⟨t,0,aC⟩) 4 4/\Hx p W t Jc
 | 1=>x=aD (aB ⟨p,0,aC⟩)
 | 2=>∃y:Nat,y<4/\x=.int .i64 (y:Int)
 | 3=>∃t y:Nat,y<4/\x=aD (aB ⟨t,y,aC⟩)/\Hx p W t Jc
 | 4=>∃u∈Jc,x=.string u
 | 5=>∃t,x=aA (aB ⟨t,0,aC⟩) 4 4/\Hx p W t Jd
 | 6=>x=aD (aB ⟨p,0,aC⟩)
 | 7=>∃y:Nat,y<4/\x=.int .i64 (y:Int)
 | 8=>∃t y:Nat,y<4/\x=aD (aB ⟨t,y,aC⟩)/\Hx p W t Jd
 | 9=>∃u∈Jd,x=.string u
 | 10=>∃u∈Jc,∃v∈Jd,x=bE #[.string u,.string v,aA aC 0 0]
 | 11=>∃R,x=aD (aB ⟨R,0,aC⟩)/\W.heap[R]?=aB Af5/\w1.heap.size<=R/\p<R
 | _=>True
theorem Sr.af(k:BV p W W'):∀(i:Nat) (x:Value),Sr p w1 i x W->Sr p w1 i x W':=by
 intro i x h;unfold Sr at *;split <;> simp only at h
 ·obtain⟨t,e,a⟩:=h;exact⟨t,e,a.af k⟩
 ·exact h
 ·exact h
 ·obtain⟨t,y,b,e,a⟩:=h;exact⟨t,y,b,e,a.af k⟩
 ·exact h
 ·obtain⟨t,e,a⟩:=h;exact⟨t,e,a.af k⟩
 ·exact h
 ·exact h
 ·obtain⟨t,y,b,e,a⟩:=h;exact⟨t,y,b,e,a.af k⟩
 ·exact h
 ·exact h
 ·obtain⟨R,e,h1,d,c⟩:=h;exact⟨R,e,k R _ c h1,d,c⟩
 ·trivial
def DbG(B p k:Nat)(w1:World)(L:Nat->Bool)(W:World):Prop:=Rd B W p (k+(if L 2=true then 1 else 0)+(if L 7=true then 1 else 0))/\(L 7=true->L 2=true)/\w1.grownBy W (aB p)
structure VF(B p:Nat)(w1:World)(R:Nat)(kk:Nat)(b:BAt)(W:World):Prop where
 rd:Rd B W p kk
 gr:w1.grownBy W (aB p)
 box:W.heap[R]?=aB (aN #[.string b.aa,.string b.name,b.v] 46 (0,0))
 Rge:w1.heap.size<=R
 plt:p<w1.heap.size
 lin:An W b.v b.ls
 abv:∀q,q<w1.heap.size->Ay q b.v b.ls
 farR:Ay R b.v b.ls
 aj:∀x∈b.ls,(∃z∈rulesOf b.aa,z.1=x.key)/\x.ws.length<=3/\∀y∈x.ws,y.length<=200
theorem VF.Rlt{R:Nat}{b:BAt}(h:VF B p w1 R kk b W):R<W.heap.size:=(aF.1 h.box).1
theorem VF.grown{R:Nat}{b:BAt}(h:VF B p w1 R kk b W)(g:W.grownBy W' (aB p))(r:Rd B W' p kk'):VF B p w1 R kk' b W' :=
 ⟨r,Ar h.gr g,BV.grown g R _ (aO h.plt h.Rge) h.box,h.Rge,h.plt,h.lin.far (h.abv p h.plt) g,h.abv,h.farR,h.aj⟩
theorem VF.V{R:Nat}{b:BAt}(h:VF B p w1 R kk b W)(a:Below W.heap.size W W'):VF B p w1 R kk b W' :=
 ⟨h.rd.V a,Ar h.gr (A2 a _),by rw[a.block R h.Rlt];exact h.box,h.Rge,h.plt,h.lin.V a,h.abv,h.farR,h.aj⟩
theorem VF.put{R:Nat}{b:BAt}(h:VF B p w1 R kk b W)(e:An W v' ls')(f:∀q,q<w1.heap.size->Ay q v' ls')(c:Ay R v' ls')(j:∀x∈ls',(∃k∈rulesOf b.aa,k.1=x.key)/\x.ws.length<=3/\∀y∈x.ws,y.length<=200):VF B p w1 R kk ⟨b.aa,b.name,v',ls'⟩ (W.setRow R #[.string b.aa,.string b.name,v']):=by
 have d:=Ba W R #[.string b.aa,.string b.name,v'];have l:=aO h.plt h.Rge;refine⟨AN.rd h.rd (AN.ai (S:=[R]) d (fun g m=>by cases m;simp)) (fun i a=>by rw[aJ.1 a];exact l),⟨h.gr.os,h.gr.tape,h.gr.output,by rw[setRow_size];exact h.gr.size,fun i a n=>?_⟩,setRow_heap _ _ _ _ _ _ h.box,h.Rge,h.plt,e.far c d,f,c,j⟩;have:=h.Rge;rw[setRow_other _ _ _ _ (by omega)];exact h.gr.block i a n
theorem VF.out{R s:Nat}{b:BAt}(h:VF B p w1 R kk b W)(l:s=w.heap.size)(y:w1.heap.size=w.heap.size+1)(a:w.grownBy w1 (aB p))(m:p<w.heap.size)(n:kk<=k+100)(o:b.ls.length<=7)(r:b.name.size<=4)(t:1<=(rulesOf b.aa).length)(cs:Array Value):Aa1 B p k w (aW (bE #[.string b.aa,.string b.name,b.v])) (W.setRow s cs):=by
 subst l;have f:=Ba W w.heap.size cs;refine⟨b,kk,rfl,n,AN.rd h.rd (AN.ai (S:=[w.heap.size]) f (fun g u=>by cases u;simp)) (fun i c=>by rw[aJ.1 c];exact m),⟨h.gr.os.trans a.os,h.gr.tape.trans a.tape,h.gr.output.trans a.output,?_,fun i c j=>?_⟩,⟨h.lin.far (h.abv _ (by omega)) f,fun q z=>h.abv q (by omega)⟩,r,o,fun x d=>(h.aj x d).2,VE t,fun x d=>by obtain⟨⟨A,v,e⟩,_⟩:=h.aj x d;rw[<-e];exact Yr v⟩
 ·rw[setRow_size];have:=h.gr.size;omega
 ·rw[setRow_other _ _ _ _ (by omega),h.gr.block i (by omega) j];exact a.block i c j
def Af6(B p k:Nat)(w1:World)(R:Nat)(kind name:ByteArray)(i:Value)(W:World):Prop:=∃(m kk:Nat) (b:BAt),i=.int .i64 (m:Int)/\m<=7/\b.ls.length+m<=7/\kk+10*m<=k+73/\b.aa=kind/\b.name=name/\VF B p w1 R kk b W
theorem EP(B p k:Nat)(w:World)(h:Rd B w p k)(dw:k<=700000):Calls prog 106 #[aD (aB ⟨p,0,aC⟩)] w fun e w'=>Aa1 B p k w e w':=by
 have cp:=h.lt;have cq:Rd B (w.alloc (aN #[.string ⟨#[]⟩,.string ⟨#[]⟩,aA aC 0 0] 46)) p k:=h.V ((aQ _ _).alloc (aM _) _);have cr:w.grownBy (w.alloc (aN #[.string ⟨#[]⟩,.string ⟨#[]⟩,aA aC 0 0] 46)) (aB p):=Ct (aY _ _ _) _;have cs:=Al w (aN #[.string ⟨#[]⟩,.string ⟨#[]⟩,aA aC 0 0] 46);have ct:(w.alloc (aN #[.string ⟨#[]⟩,.string ⟨#[]⟩,aA aC 0 0] 46)).heap.size=w.heap.size+1:=by simp
 generalize bl:w.alloc (aN #[.string ⟨#[]⟩,.string ⟨#[]⟩,aA aC 0 0] 46)=w1 at *;have cu:=Aa bl;clear bl;go_enter func106,ntmps106;go_upto_region 1 with fail
 rw[cu.out];go_cut [3] from 8 to 18 (fun q au=>Ag5 B p k w1 q au)
 case first =>
  have V:=fun n (dx:n<=k+1) W (cw:Rd B W p n)=>Bc B p n 4 W cw (by omega) (by omega) (by omega)
  have X:p<w1.heap.size:=by omega
  refine IF (A7 (fun v=>⟨#[aD (aB ⟨p,0,aC⟩),undef,aD (aB ⟨w.heap.size,0,aC⟩),v 11,undef,undef,undef,undef,v 0,v 1,v 2,v 3,v 4,v 5,v 6,v 7,v 8,v 9,v 10,undef,undef,undef,undef,undef,undef,undef,undef,undef,undef,undef,undef,undef,undef,undef,undef,undef,undef,undef,undef,undef,undef,undef,undef,undef,undef,undef,undef,undef,undef,undef,undef,undef,undef,undef,undef,undef,undef,undef],[]⟩) (Sr p w1) (DbG B p k w1)) 12 13 [0,1,2,3,4,5,6,7,8,9,10,11,12] (by kernel_rfl) rfl (by decide) (by kernel_rfl) ?_ ?_
  ·exact⟨fun _=>undef,rfl,fun i G=>by
    have:13<=i:=by simpa using G
    unfold Sr;split <;> first | omega | trivial,⟨cq,fun h=>h,⟨rfl,rfl,rfl,aM _,fun _ _ _=>rfl⟩⟩⟩
  ·refine Ag.cons [] rfl (by decide) (by kernel_rfl) ?o0 (Ag.cons [] rfl (by decide) (by kernel_rfl) ?o1 (Ag.cons [1] rfl (by decide) (by kernel_rfl) ?o2 (Ag.cons [0,2] rfl (by decide) (by kernel_rfl) ?o3 (Ag.cons [3] rfl (by decide) (by kernel_rfl) ?o4 (Ag.cons [] rfl (by decide) (by kernel_rfl) ?o5 (Ag.cons [] rfl (by decide) (by kernel_rfl) ?o6 (Ag.cons [6,2] rfl (by decide) (by kernel_rfl) ?o7 (Ag.cons [5,7] rfl (by decide) (by kernel_rfl) ?o8 (Ag.cons [8] rfl (by decide) (by kernel_rfl) ?o9 (Ag.cons [4,9] rfl (by decide) (by kernel_rfl) ?o10 (Ag.cons [] rfl (by decide) (by kernel_rfl) ?o11 (Ag.last [11,10,7,0,1,2,3,4,5,6,7,8,9,10,11] rfl (by kernel_rfl) ?o12))))))))))));case o0 =>
    rintro L _ W z o ⟨v,rfl,d,l,r,j⟩ K a;go_simp;refine a.out _ _ (A7.next d 0 _ rfl (Sr.af (BV.alloc _ _ _)) ⟨_,rfl,Al _ _,aO X j.size⟩ ⟨?_,by simpa [CF] using r,Ar j (Ct (aY _ _ _) _)⟩);simpa [CF] using l.V ((aQ _ _).alloc (aM _) _)
   case o1 =>
    rintro L _ W z o ⟨v,rfl,d,l,r,j⟩ K a;go_simp;exact a.out _ _ (A7.next d 1 _ rfl (Sr.af (BV.refl _ _)) rfl ⟨by simpa [CF] using l,by simpa [CF] using r,j⟩)
   case o2 =>
    rintro L _ W z o ⟨v,rfl,d,l,r,j⟩ K a;have aw:v 1=aD (aB ⟨p,0,aC⟩):=d 1 (o 1 (by simp));have H:L 7=false:=by
     cases H:L 7
     ·rfl
     ·have:=r H;rw[z]at this;cases this
    simp only[z,H,bW,if_false,bK]at l;go_simp;go_wp2_with (go_at_call 44;refine(V _ (by omega) _ l).mono ?_;rintro e W' ⟨y,s,rfl,ax,Y⟩)
    exact a.out _ _ (A7.next d 2 _ (by simp[aw]) (Sr.af (BV.grown Y)) ⟨y,s,rfl⟩ ⟨by simpa [CF,H] using ax,by simp[CF,H],Ar j Y⟩)
   case o3 =>
    rintro L _ W z o ⟨v,rfl,d,l,r,j⟩ K a;obtain⟨t,ay,I⟩:=d 0 (o 0 (by simp));obtain⟨y,s,az⟩:=d 2 (o 2 (by simp));have Z:(0:Int)<=(y:Int):=by omega
    have cx:(y:Int)<4:=by omega
    go_simp;exact a.out _ _ (A7.next d 3 _ (by simp[ay,az]) (Sr.af (BV.refl _ _)) ⟨t,y,s,rfl,I⟩ ⟨by simpa [CF] using l,by simpa [CF] using r,j⟩)
   case o4 =>
    rintro L _ W z o ⟨v,rfl,d,l,r,j⟩ K a;obtain⟨t,y,s,a0,I⟩:=d 3 (o 3 (by simp));obtain⟨u,J,cy⟩:=I.cell (show y<Jc.length from s);go_simp;exact a.out _ _ (A7.next d 4 _ (by simp[a0]) (Sr.af (BV.refl _ _)) ⟨u,J,rfl⟩ ⟨by simpa [CF] using l,by simpa [CF] using r,j⟩)
   case o5 =>
    rintro L _ W z o ⟨v,rfl,d,l,r,j⟩ K a;go_simp;refine a.out _ _ (A7.next d 5 _ rfl (Sr.af (BV.alloc _ _ _)) ⟨_,rfl,Al _ _,aO X j.size⟩ ⟨?_,by simpa [CF] using r,Ar j (Ct (aY _ _ _) _)⟩);simpa [CF] using l.V ((aQ _ _).alloc (aM _) _)
   case o6 =>
    rintro L _ W z o ⟨v,rfl,d,l,r,j⟩ K a;go_simp;exact a.out _ _ (A7.next d 6 _ rfl (Sr.af (BV.refl _ _)) rfl ⟨by simpa [CF] using l,by simpa [CF] using r,j⟩)
   case o7 =>
    rintro L _ W z o ⟨v,rfl,d,l,r,j⟩ K a;have aw:v 6=aD (aB ⟨p,0,aC⟩):=d 6 (o 6 (by simp));have aa:L 2=true:=o 2 (by simp);simp only[z,aa,bW,if_false,if_true,bK]at l;go_simp;go_wp2_with (go_at_call 44;refine(V _ (by omega) _ l).mono ?_;rintro e W' ⟨y,s,rfl,ax,Y⟩)
    exact a.out _ _ (A7.next d 7 _ (by simp[aw]) (Sr.af (BV.grown Y)) ⟨y,s,rfl⟩ ⟨by simpa [CF,aa] using ax,by simp[CF,aa],Ar j Y⟩)
   case o8 =>
    rintro L _ W z o ⟨v,rfl,d,l,r,j⟩ K a;obtain⟨t,ay,I⟩:=d 5 (o 5 (by simp));obtain⟨y,s,az⟩:=d 7 (o 7 (by simp));have Z:(0:Int)<=(y:Int):=by omega
    have cx:(y:Int)<4:=by omega
    go_simp;exact a.out _ _ (A7.next d 8 _ (by simp[ay,az]) (Sr.af (BV.refl _ _)) ⟨t,y,s,rfl,I⟩ ⟨by simpa [CF] using l,by simpa [CF] using r,j⟩)
   case o9 =>
    rintro L _ W z o ⟨v,rfl,d,l,r,j⟩ K a;obtain⟨t,y,s,a0,I⟩:=d 8 (o 8 (by simp));obtain⟨u,J,cy⟩:=I.cell (show y<Jd.length from s);go_simp;exact a.out _ _ (A7.next d 9 _ (by simp[a0]) (Sr.af (BV.refl _ _)) ⟨u,J,rfl⟩ ⟨by simpa [CF] using l,by simpa [CF] using r,j⟩)
   case o10 =>
    rintro L _ W z o ⟨v,rfl,d,l,r,j⟩ K a;obtain⟨u,J,cz⟩:=d 4 (o 4 (by simp));obtain⟨x,N,ab⟩:=d 9 (o 9 (by simp));go_simp;exact a.out _ _ (A7.next d 10 _ (by simp[cz,ab]) (Sr.af (BV.refl _ _)) ⟨u,J,x,N,rfl⟩ ⟨by simpa [CF] using l,by simpa [CF] using r,j⟩)
   case o11 =>
    rintro L _ W z o ⟨v,rfl,d,l,r,j⟩ K a;go_simp;refine a.out _ _ (A7.next d 11 _ rfl (Sr.af (BV.alloc _ _ _)) ⟨_,rfl,Al _ _,j.size,aO X j.size⟩ ⟨?_,by simpa [CF] using r,Ar j (Ct (aY _ _ _) _)⟩);simpa [CF] using l.V ((aQ _ _).alloc (aM _) _)
   case o12 =>
    rintro L _ W z o ⟨v,rfl,d,l,r,j⟩ K a;obtain⟨R,bm,bo,c0,c1⟩:=d 11 (o 11 (by simp));obtain⟨u,J,x,N,c2⟩:=d 10 (o 10 (by simp));have aa:L 2=true:=o 2 (by simp);have H:L 7=true:=o 7 (by simp);simp only[aa,H,if_true]at l;rw[if_pos (by rfl)];refine wp_store_row 46 _ _ rfl R #[.string u,.string x,aA aC 0 0] bm c2 46 _ bo (by kernel_rfl) rfl (by first | rfl | kernel_rfl) ?_
    refine a.out _ _ (aS ?_);have c3:W.grownBy (W.setRow R #[.string u,.string x,aA aC 0 0]) (aB R):=⟨rfl,rfl,rfl,by rw[setRow_size];exact aM _,fun i _ G=>setRow_other _ _ _ _ (fun e=>G (by rw[e]))⟩;have bp:(W.setRow R #[.string u,.string x,aA aC 0 0]).heap[R]?=aB (aN #[.string u,.string x,aA aC 0 0] 46 (0,0)):=setRow_heap _ _ _ _ _ _ bo;have c4:=AN.rd l (AN.ai (S:=[R]) c3 (fun g j=>by cases j;simp)) (fun i G=>by rw[aJ.1 G];exact c1);have c5:w1.grownBy (W.setRow R #[.string u,.string x,aA aC 0 0]) (aB p):=⟨j.os,j.tape,j.output,by rw[setRow_size];exact j.size,fun i G c6=>by rw[setRow_other _ _ _ _ (by omega)];exact j.block i G c6⟩;clear a K;go_wp2_with fail
    go_meet;exact⟨R,u,x,bm,bp,⟨Af3 u J,Af4 x N,c0⟩,c4,c5⟩
 case rest =>
  obtain⟨R,kind,name,rfl,ac,⟨bq,c7,c8⟩,a1,br⟩:=hcut;have X:p<w1.heap.size:=by omega
  have bs:VF B p w1 R (k+2) ⟨kind,name,aA aC 0 0,[]⟩ wc:=⟨a1,br,ac,c8,X,⟨⟨rfl,aC,0,rfl,⟨aM _,bL _⟩,.inl rfl⟩,by simp⟩,fun q _=>⟨.inl rfl,by simp⟩,⟨.inl rfl,by simp⟩,by simp⟩;have V:=Bc B p (k+2) 8 wc a1 (by omega) (by omega) (by omega);clear ac a1 br;go_wp2_with (go_at_call 44;refine V.mono ?_)
  rintro e w3 ⟨c9,dy,rfl,bt,ah⟩;have a2:=Aa (bs.grown ah bt);clear V bs bt ah;go_wp2;go_loopw [4] (fun i wr=>Af6 B p k w1 R kind name i wr) (fun i _=>(intOf i).toNat)
  case atStart=>exact⟨c9,k+2+1,⟨kind,name,aA aC 0 0,[]⟩,rfl,by omega,by simp;omega,by omega,rfl,rfl,a2.out⟩
  case round =>
   obtain⟨m,kk,b,rfl,bu,da,dz,bw,bx,A⟩:=hrel;obtain⟨la,lc,bz⟩:=A.lin.1.ae;obtain⟨bk,bn,bv,E⟩:=b;simp only at bw bx bz da;subst bw bx bz;have k0:=Ab A.box 0;have db:=Ab A.box 1;have dc:=Ab A.box 2;simp only[aK,aE,aH]at k0 db dc;cases m with
   | zero =>
    have b0:wr.heap[w.heap.size]?=aB (aN #[.string ⟨#[]⟩,.string ⟨#[]⟩,aA aC 0 0] 46 (0,0)):=by rw[A.gr.block w.heap.size (by omega) (by intro e;cases e;omega)];exact cs
    have b1:=Aa (A.out (k:=k) rfl ct cr cp (by omega) (by simp only;omega) c7 bq #[.string bk,.string bn,aA la E.length lc]);clear A a2;generalize E.length=nl at *;go_wp2_with (with_reducible show wpList _ _ _ (bQ _ (bN _ (bH 2) _) _ _ _ _::_) _ _;refine wpList_store_row rfl 46 _ _ rfl w.heap.size #[.string bk,.string bn,aA la nl lc] ?_ ?_ 46 _ b0 ?_ ?_ ?_ ?_)
    all_goals (first | rfl | kernel_rfl | exact⟨rfl,rfl,rfl⟩ | (obtain⟨i9,ab,_,a3,_⟩:=info_parts Bg;exact⟨i9,ab,a3⟩) | skip)
    have z5:(wr.setRow w.heap.size #[.string bk,.string bn,aA la nl lc]).heap[w.heap.size]?=aB (aN #[.string bk,.string bn,aA la nl lc] 46 (0,0)):=setRow_heap _ _ _ _ _ _ b0;have Z:=Ab z5 0;have a4:=Ab z5 1;have a5:=Ab z5 2;simp only[aK,aE,aH]at Z a4 a5;generalize wr.setRow w.heap.size #[.string bk,.string bn,aA la nl lc]=W at b1 Z a4 a5 z5⊢;exact bodyPost_ret (v:=bE #[.string bk,.string bn,aA la nl lc]) (by simp[results,results106,go_sem,Z,a4,a5]) rfl b1.out
   | succ m =>
    have d0:((m+1:Nat):Int)>0:=by omega
    have b2:=VD B p kk bk wr A.rd (by omega) bq;have b3:=Aa A;have dd:=A.Rlt;have d1:=A.gr.size;have b4:Ah E:=⟨by omega,fun x N=>⟨aP (A.aj x N).2.1 (by decide),fun y s=>aP ((A.aj x N).2.2 y s) (by decide)⟩⟩;have a6:=Aa b4;clear A a2 b4;go_wp2_with (go_at_call 165;refine b2.mono ?_)
    rintro e w2 ⟨key,xo,xc,b5,ws,b6,rfl,o3,de,b7,d2,b8,g3⟩;have a7:=b3.out.grown g3 b8;have ah:=g3.size;have a8:=(aQ w2.heap.size w2).alloc (aM _) (aN #[.string key,aA xo ws.length xc] 115);have O:=a7.V a8;have a9:=Aa (AL o3 a8);have ba:=Aa b6;have b9:=Aa b7;have ai:=Ab O.box 0;have aj:=Ab O.box 1;have ak:=Ab O.box 2;have bb:=Al w2 (aN #[.string key,aA xo ws.length xc] 115);have al:=Ab bb 0;have am:=Ab bb 1;simp only[aK,aE,aH]at ai aj ak al am;have d3:w2.heap.size<(w2.alloc (aN #[.string key,aA xo ws.length xc] 115)).heap.size:=by simp
    have d4:R<w2.heap.size:=a7.Rlt;have d5:wr.heap.size<=w2.heap.size:=ah;have an:=Yc (b:=⟨bk,bn,aA la E.length lc,E⟩) (x:=⟨key,aA xo ws.length xc,ws⟩) O.lin a6.out (AG a9.out) (by simp only;omega);have ca:=Aa O;clear b2 a7 O o3 b6 b7 g3 b8 a8 b3;generalize keyN _ _=cb at an;generalize sameN _ _=cc at an;generalize cd:E.length=nl at *;have ce:=Aa cd;clear cd;generalize cf:ws.length=nw at *;have ao:=Aa cf;clear cf;generalize cg:w2.alloc (aN #[.string key,aA xo nw xc] 115)=d6 at *;go_wp2_with (go_at_call 155;(try rw[cg]);refine an.mono ?_)
    rintro e ap ⟨rfl,F⟩;have bp:=F.size;have aq:=Aa (ca.out.V F);have ar:=Aa (AL a9.out F);have Q:=(F.cell (aL _ _ ai)).trans ai;have ad:=(F.cell (aL _ _ aj)).trans aj;have ae:=(F.cell (aL _ _ ak)).trans ak;have T:=(F.cell (aL _ _ al)).trans al;have af:=(F.cell (aL _ _ am)).trans am;obtain⟨df,ch,dg⟩:=ba.out;have ci:Bt (rulesOf bk) key=aB df:=by rw[<-dg];exact PZ (Cw bk) ch
    obtain⟨P,cj,ck⟩:=Adi ci;have cl:∀W,Calls prog 90 #[.string bk,.string key] W fun e w'=>e=aW (.int .i64 (P:Int))/\Below W.heap.size W w':=by
     intro W;have:=Hq bk key W;rw[cj]at this;exact this
    clear an ai aj ak al am a9 ca ci cj bb cg;go_upto_region 7 with fail
    go_cut [53] from 35 to 53 (fun c au=>(∃C:Bool,c=.bool C)/\Below ap.heap.size ap au)
    case first =>
     have v0:=fun p:Gr ap=>A6 Q p
     have v1:=fun p:Gr ap=>A6 T p
     clear aq ar ba b9 a6 Q ad ae T af ch;by_cases dh:cc=0
     ·subst dh;by_cases di:cb=0
      ·subst di;refine AQ (by kernel_rfl) (by kernel_rfl) ?_;iterate 6 quiet_step (fail)
       iterate 11 (with_reducible refine AY ?_ ?_;kernel_rfl;simp only[Act.put,bM,bT,bU])
       iterate 2 quiet_step (fail)
       refine wpQuiet_nil ?_;rintro _ ⟨⟨dj,bc⟩,rfl⟩;go_wp2_with fail
       go_meet;exact⟨⟨_,rfl⟩,bc⟩
      ·have d7:((cb:Int)==0)=false:=by rw[beq_eq_false_iff_ne];omega
       refine ID 19 19 (by kernel_rfl) rfl ?_;refine KD [true,true,true,true,true,true,true,true,false,true,true,true,true,false,false,false,false,false,false] 7 rfl (by kernel_rfl) ?_;simp only[AU,AV,AR];iterate 12 (refine Dc (fun K a=>?_);go_simp;refine a _ ?_;clear a K)
       refine GN ?_;refine KZ (f:=6) (rs:=[8]) (by kernel_rfl) (by simp) ?_;rintro⟨d8,cm⟩;refine IC.cons rfl (by decide) (fun K a=>?_) IC.nil;go_simp;go_wp2_with (go_at_call 56;refine(ck _).mono ?_;rintro e ag ⟨d9,ea,eb,ec,av,ed,cv,ee,ef,rfl,bu,dk,eg,D⟩)
       refine a.out _ _ D ?_;clear a K;have t2:=fun p:Gr ag=>A6 dk.2.2.1 p
       have dl:∀p:Gr ag,Calls prog 90 #[.string bk,.string key] p.u fun e w'=>e=aW (.int .i64 (P:Int))/\Below p.u.heap.size p.u w':=fun p=>cl p.u
       obtain⟨eh,ei⟩:=bu;refine KD [false,false,false,false,false,false,false,false,false,false,false,false,false,true,true,true,true,true,true] 0 rfl (by kernel_rfl) ?_;simp only[AU,AV,AR];refine Dc (fun K a=>?_);go_simp;apply cC;refine⟨fun _=>?_,a _ ?_⟩;go_at_call 90
       exact dl _;clear a K;iterate 5 (refine Dc (fun K a=>?_);go_simp;refine a _ ?_;clear a K)
       refine GN ?_;refine XU (by kernel_rfl) ?_ 0;rintro⟨ej,dm⟩;refine aS ?_;go_wp2_with fail
       go_meet;exact⟨⟨_,rfl⟩,cm.trans ((D.trans (dm.mono D.size)).mono cm.size)⟩
     ·have ek:((cc:Int)==0)=false:=by rw[beq_eq_false_iff_ne];omega
      refine AQ (by kernel_rfl) (by kernel_rfl) ?_;iterate 3 quiet_step (fail)
      iterate 15 (with_reducible refine AY ?_ ?_;kernel_rfl;simp only[Act.put,bM,bT,bU])
      quiet_step (fail)
      refine wpQuiet_nil ?_;rintro _ ⟨⟨dj,bc⟩,rfl⟩;go_wp2_with fail
      go_meet;exact⟨⟨_,rfl⟩,bc⟩
    case rest =>
     obtain⟨ag,dn⟩:∃ag,ag=wc:=⟨_,rfl⟩;subst dn;obtain⟨⟨C,rfl⟩,D⟩:=hcut;have el:=D.size;have M:=Aa (aq.out.V D);have bd:=Aa (AL ar.out D);clear ck cl;cases C
     ·clear Q ad ae T af aq ar;go_wp2;go_roundw;case rel=>exact⟨m,b5,⟨bk,bn,aA la nl lc,E⟩,by go_num,by omega,by have:=ce.out;simp only;omega,by omega,rfl,rfl,M.out⟩
      case measure=>simp[intOf]
     ·have cn:=IG (b:=⟨bk,bn,aA la nl lc,E⟩) (x:=⟨key,aA xo nw xc,ws⟩) M.out.lin a6.out (by have:=AG bd.out;show Ap _ _ _ _ _;rw[ao.out];exact this) (by simp only;rw[ao.out];omega);have dp:=(D.cell (aL _ _ Q)).trans Q;have dq:=(D.cell (aL _ _ ad)).trans ad;have dr:=(D.cell (aL _ _ ae)).trans ae;have ds:=(D.cell (aL _ _ T)).trans T;have dt:=(D.cell (aL _ _ af)).trans af;clear Q ad ae T af aq ar;go_wp2_with (go_at_call 86;refine cn.mono ?_)
      rintro e em ⟨be,bf,bg,bh,rfl,U,du⟩;have bi:=M.out.V du;have ac:=bi.box;simp only at ac;have co:∀q,q<wr.heap.size->Cc q (aA xo nw xc) ws.length:=fun q bj=>by rw[ao.out];exact Cc.above bd.out bj
      have dv:=Aa (bi.put (v':=aA be bf bg) (ls':=bh) U.2.2.2.1 (fun q bj=>U.2.2.2.2 q (by omega) (M.out.abv q bj) (co q (by omega))) (U.2.2.2.2 R (by omega) M.out.farR (co R dd)) (fun y s=>by
       rcases U.2.2.1 y s with rfl | s
       ·exact⟨ba.out,by simp only;rw[ao.out];exact de,b9.out⟩
       ·exact M.out.aj y s))
      have en:bh.length=nl+1:=by have:=U.2.1;have:=ce.out;simp only at *;omega
      clear cn U bi M bd dp dq dr ds dt;go_wp2_with (with_reducible show wpList _ _ _ (bQ _ (bN _ (bH 3) _) _ _ _ _::_) _ _;refine wpList_store_row rfl 46 _ _ rfl R #[.string bk,.string bn,aA be bf bg] ?_ ?_ 46 _ ac ?_ ?_ ?_ ?_)
      all_goals (first | rfl | kernel_rfl | exact⟨rfl,rfl,rfl⟩ | (obtain⟨i9,ab,_,a3,_⟩:=info_parts Bg;exact⟨i9,ab,a3⟩) | skip)
      go_roundw;case rel=>exact⟨m,b5,⟨bk,bn,aA be bf bg,bh⟩,by go_num,by omega,by simp only;omega,by omega,rfl,rfl,dv.out⟩
      case measure=>simp[intOf]
variable {bs bs':List BAt}{S d:Nat}{v:Value}
def Dw(b:BAt):Prop:=b.name.size<=30/\b.ls.length<=7/\∀x∈b.ls,x.ws.length<=3/\∀y∈x.ws,y.length<=200
theorem Dw.ac{b:BAt}(h:Dw b):Ah b.ls:=⟨aP h.2.1 (by decide),fun x a=>⟨aP (h.2.2 x a).1 (by decide),fun y c=>aP ((h.2.2 x a).2 y c) (by decide)⟩⟩
theorem Fa(c:bs.length<=1048576)(h:∀b∈bs,Dw b):Ax bs:=⟨c,fun b a=>⟨aP (h b a).1 (by decide),(h b a).ac⟩⟩
theorem Dw.same{b c:BAt}(h:Dw b)(e:c.I=b.I):Dw c:=by
 have d:c.name=b.name:=congrArg PBlock.name e;have a:c.ls.map LAt.I=b.ls.map LAt.I:=congrArg PBlock.ac e;refine⟨by rw[d];exact h.1,by have:=congrArg bR a;simp at this;rw[this];exact h.2.1,fun x f=>?_⟩;have:x.I∈b.ls.map LAt.I:=a▸aV f;obtain⟨y,g,i⟩:=bJ.1 this;have j:y.ws=x.ws:=congrArg PLine.ws i;rw[<-j];exact h.2.2 y g
theorem Lk{cs:List BAt}(h:∀b∈bs,Dw b)(e:cs.map BAt.I=bs.map BAt.I):∀c∈cs,Dw c:=fun c a=>by
 have:c.I∈bs.map BAt.I:=e▸aV a;obtain⟨b,d,f⟩:=bJ.1 this;exact(h b d).same f.symm
theorem FC.same{b c:BAt}(h:FC b)(e:c.I=b.I):FC c:=by
 have a:c.aa=b.aa:=congrArg PBlock.aa e;have d:c.ls.map LAt.I=b.ls.map LAt.I:=congrArg PBlock.ac e;refine⟨by rw[a];exact h.1,fun x f=>?_⟩;have:x.I∈b.ls.map LAt.I:=d▸aV f;obtain⟨y,g,i⟩:=bJ.1 this;have j:y.key=x.key:=congrArg PLine.key i;rw[<-j];exact h.2 y g
theorem TQ{cs:List BAt}(h:∀b∈bs,FC b)(e:cs.map BAt.I=bs.map BAt.I):∀c∈cs,FC c:=fun c a=>by
 have:c.I∈bs.map BAt.I:=e▸aV a;obtain⟨b,d,f⟩:=bJ.1 this;exact(h b d).same f.symm
structure UE(B p:Nat)(w1:World)(S:Nat)(kk:Nat)(v:Value)(bs:List BAt)(W:World):Prop where
 rd:Rd B W p kk
 gr:w1.grownBy W (aB p)
 box:W.heap[S]?=aB (aN #[v] 25 (0,0))
 Sge:w1.heap.size<=S
 plt:p<w1.heap.size
 bin:As W v bs
 abv:∀q,q<w1.heap.size->AD q v bs
 farS:AD S v bs
 aj:∀b∈bs,Dw b
 smk:∀b∈bs,FC b
theorem UE.Slt(h:UE B p w1 S kk v bs W):S<W.heap.size:=(aF.1 h.box).1
theorem UE.grown(h:UE B p w1 S kk v bs W)(g:W.grownBy W' (aB p))(r:Rd B W' p kk'):UE B p w1 S kk' v bs W' :=
 ⟨r,Ar h.gr g,BV.grown g S _ (aO h.plt h.Sge) h.box,h.Sge,h.plt,h.bin.far (h.abv p h.plt) g,h.abv,h.farS,h.aj,h.smk⟩
theorem UE.V(h:UE B p w1 S kk v bs W)(a:Below W.heap.size W W'):UE B p w1 S kk v bs W' :=
 ⟨h.rd.V a,Ar h.gr (A2 a _),by rw[a.block S h.Slt];exact h.box,h.Sge,h.plt,h.bin.V a,h.abv,h.farS,h.aj,h.smk⟩
theorem UE.put(h:UE B p w1 S kk v bs W)(d:As W v' bs')(e:∀q,q<w1.heap.size->AD q v' bs')(b:AD S v' bs')(f:∀x∈bs',Dw x)(j:∀x∈bs',FC x):UE B p w1 S kk v' bs' (W.setRow S #[v']):=by
 have c:=Ba W S #[v'];have k:=aO h.plt h.Sge;refine⟨AN.rd h.rd (AN.ai (S:=[S]) c (fun g l=>by cases l;simp)) (fun i a=>by rw[aJ.1 a];exact k),⟨h.gr.os,h.gr.tape,h.gr.output,by rw[setRow_size];exact h.gr.size,fun i a m=>?_⟩,setRow_heap _ _ _ _ _ _ h.box,h.Sge,h.plt,d.far b c,e,b,f,j⟩;have:=h.Sge;rw[setRow_other _ _ _ _ (by omega)];exact h.gr.block i a m
def Aa2(d B p k:Nat)(w:World)(e:Ending)(w':World):Prop:=∃(v:Value) (bs:List BAt) (k':Nat),e=aW (bE #[v])/\k'<=k+d/\Rd B w' p k'/\w.grownBy w' (aB p)/\Aq w.heap.size w' v bs/\bs.length<=60/\(∀b∈bs,Dw b)/\∀b∈bs,FC b
theorem UE.out{v5:Value}{c:List BAt}(h:UE B p w1 S kk v bs W)(s:w1.heap.size=w.heap.size+1)(b:w.grownBy w1 (aB p))(l:p<w.heap.size)(m:kk<=k+d)(t:bs.length<=60)(e:c.map BAt.I=bs.map BAt.I)(n:Aq W.heap.size W' v5 c)(o:Below W.heap.size W W')(cs:Array Value):Aa2 d B p k w (aW (bE #[v5])) (W'.setRow w.heap.size cs):=by
 have q:=Ba W' w.heap.size cs;have a:=h.V o;have u:=h.gr.size;refine⟨v5,c,kk,rfl,m,AN.rd a.rd (AN.ai (S:=[w.heap.size]) q (fun g r=>by cases r;simp)) (fun i f=>by rw[aJ.1 f];exact l),⟨a.gr.os.trans b.os,a.gr.tape.trans b.tape,a.gr.output.trans b.output,?_,fun i f j=>?_⟩,(n.setRow w.heap.size (by omega) cs).mono (by omega),?_,Lk h.aj e,TQ h.smk e⟩
 ·rw[setRow_size];have:=a.gr.size;omega
 ·rw[setRow_other _ _ _ _ (by omega),a.gr.block i (by omega) j];exact b.block i f j
 ·have:=congrArg bR e;simp at this;omega
def Ae0(B p k:Nat)(w1:World)(S:Nat)(i:Value)(W:World):Prop:=∃(m kk:Nat) (v:Value) (bs:List BAt),i=.int .i64 (m:Int)/\m<=5/\bs.length+m<=5/\kk+100*m<=k+501/\UE B p w1 S kk v bs W
def Af7(B p k n:Nat)(w1:World)(S:Nat)(i:Value)(W:World):Prop:=∃(m:Nat) (v:Value) (bs:List BAt),i=.int .i64 (m:Int)/\m<=bs.length/\bs.length<=n/\UE B p w1 S k v bs W
theorem Ys(i:Nat)(a:i<=60):(bP i).length<=7:=by rw[Lib.decDigits_length];exact Hf _ (by omega)
theorem Yt(w:World)(m:Nat)(h:m<=60):∃ds:ByteArray,ds.size<=7/\∀q:Gr w,Calls prog 85 #[.int .i64 (m:Int)] q.u fun e w'=>e=aW (.string ds)/\Below q.u.heap.size q.u w' :=
 ⟨⟨(bP m).toArray⟩,by show (bP m).toArray.size<=7;rw[List.size_toArray];exact Ys m h,fun q=>OT m q.u (by omega)⟩
def Ll(ds:ByteArray):ByteArray:=⟨#[110]⟩++ds
def Hy(nm:ByteArray):BAt:=⟨⟨#[98,101,114,116,104]⟩,nm,aA aC 0 0,[]⟩
theorem Yu(nm:ByteArray)(a:As w v bs)(b:bs.length<=1048576):Calls prog 54 #[bE #[v],bE #[.string ⟨#[98,101,114,116,104]⟩,.string nm,aA aC 0 0]] w fun e w'=>Qq v bs (Hy nm) w e w' :=
 BU (x:=Hy nm) a b ⟨⟨rfl,aC,0,rfl,⟨aM _,bL _⟩,.inl rfl⟩,by intro x c;cases c⟩
theorem TR(ds:ByteArray)(h:ds.size<=7):Dw (Hy (Ll ds)):=by
 refine⟨?_,bL _,by intro x a;cases a⟩;show (Ll ds).size<=30
 unfold Ll;rw[ByteArray.size_append];show 1+ds.size<=30
 omega
theorem Yv(nm:ByteArray):FC (Hy nm):=⟨show (⟨#[98,101,114,116,104]⟩:ByteArray).size<=20 by decide,by intro x a;cases a⟩
theorem P5(q:Nat)(nm:ByteArray):Ay q (Hy nm).v (Hy nm).ls:=⟨.inl rfl,by intro x a;cases a⟩
theorem VG(B p k:Nat)(w:World)(h:Rd B w p k)(cq:k<=600000):Calls prog 78 #[aD (aB ⟨p,0,aC⟩)] w fun e w'=>Aa2 600 B p k w e w':=by
 have av:=h.lt;have aw:Rd B (w.alloc (aN #[aA aC 0 0] 25)) p k:=h.V ((aQ _ _).alloc (aM _) _);have ax:w.grownBy (w.alloc (aN #[aA aC 0 0] 25)) (aB p):=Ct (aY _ _ _) _;have ay:=Al w (aN #[aA aC 0 0] 25);have P:(w.alloc (aN #[aA aC 0 0] 25)).heap.size=w.heap.size+1:=by simp
 have z2:=Al (w.alloc (aN #[aA aC 0 0] 25)) (aN #[aA aC 0 0] 25);have aj:=(aQ (w.heap.size+1) (w.alloc (aN #[aA aC 0 0] 25))).alloc (by simp) (aN #[aA aC 0 0] 25);rw[P]at z2;generalize az:w.alloc (aN #[aA aC 0 0] 25)=w1 at *;have b3:=Aa az;clear az;have ak:UE B p w1 (w.heap.size+1) k (aA aC 0 0) [] (w1.alloc (aN #[aA aC 0 0] 25)):=⟨aw.V (by rw[P];exact aj),A2 (by rw[P];exact aj) _,z2,by omega,by omega,⟨⟨rfl,aC,0,rfl,⟨aM _,bL _⟩,.inl rfl⟩,by simp⟩,fun q _=>⟨.inl rfl,by simp⟩,⟨.inl rfl,by simp⟩,by simp,by simp⟩;clear z2 aj aw;generalize a0:w1.alloc (aN #[aA aC 0 0] 25)=w2 at *;have b4:=Aa a0;clear a0;have a1:=Bc B p k 6 w2 ak.rd (by omega) (by omega) (by omega);go_enter func78,ntmps78;go_wp2_with (go_at_call 44;rw[b3.out,b4.out];refine a1.mono ?_)
 rintro e w3 ⟨b5,cr,rfl,a2,a3⟩;have a4:=Aa (ak.grown a3 a2);clear a1 ak a2 a3;go_wp2;go_loopw [4] (fun i wr=>Ae0 B p k w1 (w.heap.size+1) i wr) (fun i _=>(intOf i).toNat)
 case atStart=>exact⟨b5,k+1,aA aC 0 0,[],rfl,by omega,by simp;omega,by omega,a4.out⟩
 case round =>
  obtain⟨m,kk,v,bs,rfl,cs,ct,cu,a⟩:=hrel;obtain⟨sa,sc,rfl⟩:=a.bin.1.ae;have c0:=Ab a.box 0;simp only[aK,aE]at c0;clear a4;cases m with
  | zero =>
   have a5:=Bc B p kk 24 wr a.rd (by omega) (by omega) (by omega);have Q:=Aa a;clear a;go_wp2_with (go_at_call 44;refine a5.mono ?_)
   rintro e s ⟨y,c,rfl,R,N⟩;have t:=Q.out.grown N R;have c4:=Ab t.box 0;simp only[aK,aE]at c4;clear a5 Q R N c0;by_cases b6:y=0
   ·subst b6;have a6:=Bc B p (kk+1) 2 s t.rd (by omega) (by omega) (by omega);have Q:=Aa t;clear t;go_wp2_with (go_at_call 44;refine a6.mono ?_)
    rintro e b7 ⟨x,b8,rfl,a7,a8⟩;have G:=Aa (Q.out.grown a8 a7);clear a6 Q a7 a8 c4;have b9:(60:Int)-(x:Int)=((60-x:Nat):Int):=by omega
    go_wp2;generalize bb:60-x=n at *;have ca:n<=60:=by omega
    have cv:59<=n:=by omega
    clear bb b9 b8;go_loopw [7] (fun i wr=>Af7 B p (kk+1+1) n w1 (w.heap.size+1) i wr) (fun i W=>61-(intOf i).toNat)
    case atStart=>exact⟨0,aA sa bs.length sc,bs,rfl,by omega,by omega,G.out⟩
    case round =>
     obtain⟨al,v,O,rfl,cw,cx,a⟩:=hrel;obtain⟨ta,bd,rfl⟩:=a.bin.1.ae;have be:=Ab a.box 0;simp only[aK,aE]at be;clear G;by_cases cb:O.length<n
     ·have cc:((O.length:Int)<(n:Int)):=by omega
      obtain⟨ds,cd,S⟩:∃ds:ByteArray,ds.size<=7/\∀q:Gr wr,Calls prog 85 #[.int .i64 (al:Int)] q.u fun e w'=>e=aW (.string ds)/\Below q.u.heap.size q.u w':=Yt wr al (by omega)
      have H:∀q:Gr wr,Calls prog 54 #[bE #[aA ta O.length bd],bE #[.string ⟨#[98,101,114,116,104]⟩,.string (Ll ds),aA aC 0 0]] q.u fun e w'=>Qq (aA ta O.length bd) O (Hy (Ll ds)) q.u e w':=fun q=>Yu (Ll ds) (a.bin.V q.h) (aP (Nat.le_of_lt cb) (aP ca (by decide)))
      generalize bf:Hy (Ll ds)=cy at H;have aa:=Aa bf;clear bf;unfold Ll at H;have cz:¬ 9223372036854775807<1+ds.size:=by omega
      have v0:=fun q:Gr wr=>A6 be q
      have ce:=Aa (TR ds cd);have g:=Aa a;clear a;go_upto_region 13 with fail
      refine ID 6 7 (by kernel_rfl) rfl ?_;refine KD [true,true,true,true,true,false,false] 2 rfl (by kernel_rfl) ?_;simp only[AU,AV,AR];iterate 2 (refine Dc (fun K l=>?_);go_simp;refine l _ ?_;clear l K)
      refine Dc (fun K l=>?_);go_simp;apply cC;refine⟨fun _=>?_,l _ ?_⟩;go_at_call 85
      exact S _;clear l K;iterate 2 (refine Dc (fun K l=>?_);go_simp;refine l _ ?_;clear l K)
      refine GN ?_;refine KZ (f:=1) (rs:=[5]) (by kernel_rfl) (by simp) ?_;rintro⟨am,ab⟩;refine IC.cons rfl (by decide) (fun K l=>?_) IC.nil;go_simp;go_wp2_with (go_at_call 54;refine(H ⟨am,ab⟩).mono ?_;rintro e cf ⟨I,J,L,U,rfl,j,V⟩)
      refine l.out _ _ V ?_;clear l K;refine XT (by kernel_rfl) rfl (by kernel_rfl) ?_;rintro⟨c1,bg⟩ K l;have cg:=ab.trans ((V.trans (bg.mono V.size)).mono ab.size);have an:=g.out.V cg;have ac:=an.box;have c2:=ab.size;have bh:=g.out.Slt;have ch:=g.out.gr.size;have ad:=an.put (v':=aA I J L) (bs':=U) (j.2.2.2.1.V bg) (fun q ao=>j.2.2.2.2 q (by show q<am.heap.size;omega) (g.out.abv q ao) (by rw[<-aa.out];exact P5 q _)) (j.2.2.2.2 _ (by show _<am.heap.size;omega) g.out.farS (by rw[<-aa.out];exact P5 _ _)) (fun y c=>by
       rcases j.2.2.1 y c with rfl | c
       ·rw[<-aa.out];exact ce.out
       ·exact g.out.aj y c) (fun y c=>by
       rcases j.2.2.1 y c with rfl | c
       ·rw[<-aa.out];exact Yv _
       ·exact g.out.smk y c)
      have ci:=j.2.1;rw[if_pos (by rfl)];refine wp_store_row 25 _ _ rfl (w.heap.size+1) #[aA I J L] rfl rfl 25 _ ac (by first | kernel_rfl | exact AB) rfl (by first | rfl | kernel_rfl) ?_
      refine l.out _ _ (aS ?_);clear l K j ac an;have cj:=Aa ad;clear ad H S;go_wp2;go_roundw;case rel=>exact⟨al+1,aA I J L,U,by go_num,by omega,by omega,cj.out⟩
      case measure=>simp[intOf];omega
     ·have cc:¬((O.length:Int)<(n:Int)):=by omega
      have X:=Fw a.bin (Fa (by omega) a.aj);have g:=Aa a;have ck:=a.gr.size;have Y:wr.heap[w.heap.size]?=aB (aN #[aA aC 0 0] 25 (0,0)):=by rw[a.gr.block w.heap.size (by omega) (by intro e;cases e;omega)];exact ay
      clear a;go_wp2_with (go_at_call 55;refine X.mono ?_)
      first | rintro e u v9 rfl z A o9 o | rintro e u v9 z rfl A o9 o | rintro e u ⟨v9,z,rfl,A,o9,o⟩
      have z9:=(o.block w.heap.size (by omega)).trans Y;obtain⟨a9,c9,rfl,_⟩:=Ak o9.row;have Z:=Aa (g.out.out (d:=600) (k:=k) P ax av (by omega) (by omega) A o9 o #[aA a9 z.length c9]);clear X g o9 A o Y;generalize z.length=r at *;go_wp2_with (with_reducible show wpList _ _ _ (bQ _ (bN _ (bH 2) _) _ _ _ _::_) _ _;refine wpList_store_row rfl 25 _ _ rfl w.heap.size #[aA a9 r c9] ?_ ?_ 25 _ z9 ?_ ?_ ?_ ?_)
      all_goals (first | rfl | kernel_rfl | exact AB | skip)
      have z5:(u.setRow w.heap.size #[aA a9 r c9]).heap[w.heap.size]?=aB (aN #[aA a9 r c9] 25 (0,0)):=setRow_heap _ _ _ _ _ _ z9;have M:=Ab z5 0;simp only[aK,aE]at M;generalize u.setRow w.heap.size #[aA a9 r c9]=W at Z M z5⊢;exact bodyPost_ret (v:=bE #[aA a9 r c9]) (by simp[results,results78,go_sem,M]) rfl Z.out
   ·have c3:((y:Int)==0)=false:=by rw[beq_eq_false_iff_ne];omega
    have a:=t;clear t;have X:=Fw a.bin (Fa (by omega) a.aj);have g:=Aa a;have ck:=a.gr.size;have Y:s.heap[w.heap.size]?=aB (aN #[aA aC 0 0] 25 (0,0)):=by rw[a.gr.block w.heap.size (by omega) (by intro e;cases e;omega)];exact ay
    clear a;go_wp2_with (go_at_call 55;refine X.mono ?_)
    first | rintro e u v9 rfl z A o9 o | rintro e u v9 z rfl A o9 o | rintro e u ⟨v9,z,rfl,A,o9,o⟩
    have z9:=(o.block w.heap.size (by omega)).trans Y;obtain⟨a9,c9,rfl,_⟩:=Ak o9.row;have Z:=Aa (g.out.out (d:=600) (k:=k) P ax av (by omega) (by omega) A o9 o #[aA a9 z.length c9]);clear X g o9 A o Y;generalize z.length=r at *;go_wp2_with (with_reducible show wpList _ _ _ (bQ _ (bN _ (bH 2) _) _ _ _ _::_) _ _;refine wpList_store_row rfl 25 _ _ rfl w.heap.size #[aA a9 r c9] ?_ ?_ 25 _ z9 ?_ ?_ ?_ ?_)
    all_goals (first | rfl | kernel_rfl | exact AB | skip)
    have z5:(u.setRow w.heap.size #[aA a9 r c9]).heap[w.heap.size]?=aB (aN #[aA a9 r c9] 25 (0,0)):=setRow_heap _ _ _ _ _ _ z9;have M:=Ab z5 0;simp only[aK,aE]at M;generalize u.setRow w.heap.size #[aA a9 r c9]=W at Z M z5⊢;exact bodyPost_ret (v:=bE #[aA a9 r c9]) (by simp[results,results78,go_sem,M]) rfl Z.out
  | succ m =>
   have c6:((m+1:Nat):Int)>0:=by omega
   have S:=EP B p kk wr a.rd (by omega);have g:=Aa a;have bh:=a.Slt;have ch:=a.gr.size;clear a;go_wp2_with (go_at_call 106;refine S.mono ?_)
   rintro e s ⟨b,bi,rfl,c7,R,N,⟨ae,ap⟩,cl,bj,aq,bl⟩;obtain⟨ba,bc,bm⟩:=ae.1.ae;obtain⟨bk,bn,bv,C⟩:=b;simp only at ae ap cl bj aq bm;subst bm;have cm:=Aa (show ∀q,FC ⟨bk,bn,aA ba q bc,C⟩ from fun _=>bl);clear bl;have t:=g.out.grown N R;have c8:=N.size;have ar:=(aQ s.heap.size s).alloc (aM _) (aN #[.string bk,.string bn,aA ba C.length bc] 46);have G:=t.V ar;have af:=Al s (aN #[.string bk,.string bn,aA ba C.length bc] 46);have ag:=Ab af 0;have ah:=Ab af 1;have ai:=Ab af 2;have c5:=Ab G.box 0;simp only[aK,aE,aH]at ag ah ai c5;have bo:=Aa (ae.V ar);have bp:=Aa ap;have cn:=Aa (show Dw ⟨bk,bn,aA ba C.length bc,C⟩ from⟨by simp only;omega,bj,aq⟩);have bq:=GL bk bn G.bin (by omega);have br:=Aa G;have da:(s.alloc (aN #[.string bk,.string bn,aA ba C.length bc] 46)).heap.size=s.heap.size+1:=by simp
   clear S g t G ae ap aq R N ar af c0;generalize co:C.length=nl at *;clear co;generalize bt:s.alloc (aN #[.string bk,.string bn,aA ba nl bc] 46)=b7 at *;go_wp2_with (go_at_call 52;(try rw[bt]);refine bq.mono ?_)
   first | rintro e cp bu E | rintro e cp ⟨bu,E⟩
   have bw:=br.out.V E;have bx:=(E.cell (aL _ _ ag)).trans ag;have bz:=(E.cell (aL _ _ ah)).trans ah;have b0:=(E.cell (aL _ _ ai)).trans ai;have b1:=(E.cell (aL _ _ c5)).trans c5;have db:=E.size;have b2:=Aa (bo.out.V E);have F:=Aa bw;clear bq br bo ag ah ai c5 bw bt;rcases bu with ⟨_,rfl⟩ | ⟨D,x,T,_,_,rfl⟩
   ·have H:=BU (x:=⟨bk,bn,aA ba nl bc,C⟩) F.out.bin (by omega) b2.out;go_wp2_with (go_at_call 54;refine H.mono ?_)
    rintro e cf ⟨I,J,L,U,rfl,j,V⟩;have au:=F.out.V V;have ac:=au.box;have ad:=Aa (au.put (v':=aA I J L) (bs':=U) j.2.2.2.1 (fun q ao=>j.2.2.2.2 q (by omega) (F.out.abv q ao) (bp.out q (by omega))) (j.2.2.2.2 _ (by omega) F.out.farS (bp.out _ bh)) (fun y c=>by
     rcases j.2.2.1 y c with rfl | c
     ·exact cn.out
     ·exact F.out.aj y c) (fun y c=>by
     rcases j.2.2.1 y c with rfl | c
     ·exact cm.out _
     ·exact F.out.smk y c))
    have ci:=j.2.1;clear H j au F b2 bx bz b0 b1;go_wp2_with (with_reducible show wpList _ _ _ (bQ _ (bN _ (bH 3) _) _ _ _ _::_) _ _;refine wpList_store_row rfl 25 _ _ rfl (w.heap.size+1) #[aA I J L] ?_ ?_ 25 _ ac ?_ ?_ ?_ ?_)
    all_goals (first | rfl | kernel_rfl | exact AB | skip)
    go_roundw;case rel=>exact⟨m,bi,aA I J L,U,by go_num,by omega,by omega,by omega,ad.out⟩
    case measure=>simp[intOf]
   ·have bb:¬((D.length:Int)<0):=by omega
    clear bx bz b0 b1;go_wp2;go_roundw;case rel=>exact⟨m,bi,_,bs,by go_num,by omega,by omega,by omega,F.out⟩
    case measure=>simp[intOf]
variable {c q X Y g n:Nat}{ls:List LAt}{D T:List BAt}{y:BAt}{bk bn bk' bn':ByteArray}{bv:Value}
theorem Yw(B p k:Nat)(w:World)(h:Rd B w p k)(i:k<=1000000):Calls prog 44 #[aD (aB ⟨p,0,aC⟩),.int .i64 0] w fun e w'=>e=aW (.int .i64 0)/\Rd B w' p (k+1)/\w.grownBy w' (aB p):=by
 have c:=h.step;obtain⟨j,a,d,f,b,l,g⟩:=h;have c0:w.cell? ⟨p,0,aC⟩=aB (aA a d f):=by rw[cB b];rfl
 have m:w.cell? ⟨p,1,aC⟩=aB (.int .i64 (k:Int)):=by rw[cB b];rfl
 have n:w.frozen? ⟨p,1,aC⟩=false:=Lib.frozen_of_heap b 1;clear g;go_enter func44,ntmps44;go_wp2;go_ret;exact⟨rfl,c.1,c.2⟩
def Adm(n B p k:Nat)(w:World)(e:Ending)(w':World):Prop:=∃x:Nat,(x<n\/n=0/\x=0)/\e=aW (.int .i64 (x:Int))/\Rd B w' p (k+1)/\w.grownBy w' (aB p)
theorem TT(B p k n:Nat)(w:World)(h:Rd B w p k)(c:n<=1000)(b:k<=1000000):Calls prog 44 #[aD (aB ⟨p,0,aC⟩),.int .i64 (n:Int)] w fun e w'=>Adm n B p k w e w':=by
 by_cases d:n=0
 ·subst d;refine(Yw B p k w h b).mono ?_;rintro e w' ⟨rfl,h1,a⟩;exact⟨0,.inr ⟨rfl,rfl⟩,rfl,h1,a⟩
 ·refine(Bc B p k n w h (by omega) c b).mono ?_;rintro e w' ⟨x,f,rfl,h1,a⟩;exact⟨x,.inl f,rfl,h1,a⟩
def Dx(name:ByteArray)(ls:List LAt):Prop:=name.size<=1048576/\Ah ls
theorem Dw.x{b:BAt}(h:Dw b):Dx b.name b.ls:=⟨aP h.1 (by decide),h.ac⟩
def CP(c:Nat)(a:List Nat)(W:World)(v:Value)(ls:List LAt):Prop:=An W v ls/\(∀q∈a,Ay q v ls)/\∀q,q<c->Ay q v ls
theorem CP.grown{b:List Nat}(h:CP c b W v ls)(d:W.grownBy W' (aB q))(a:q<c\/q∈b):CP c b W' v ls:=⟨h.1.far (by rcases a with a | a;exact h.2.2 q a;exact h.2.1 q a) d,h.2⟩
theorem CP.V{a:List Nat}(h:CP c a W v ls)(b:Below W.heap.size W W'):CP c a W' v ls:=⟨h.1.V b,h.2⟩
structure FD(B p c X Y:Nat)(w1:World)(D T:List BAt)(y:BAt)(g n cap kk:Nat)(bk bn:ByteArray)(bv:Value)(ls:List LAt)(W:World):Prop where
 rd:Rd B W p kk
 gr:w1.grownBy W (aB p)
 plt:p<c
 cw:c=w1.heap.size
 xb:W.heap[X]?=aB (aN #[aA (aB ⟨g,0,aC⟩) n cap] 25 (0,0))
 yb:W.heap[Y]?=aB (aN #[.string bk,.string bn,bv] 46 (0,0))
 cX:c<=X
 cY:c<=Y
 XY:X≠Y
 gX:g≠X
 gY:g≠Y
 row:W.ownsRow c 46 3 (aA (aB ⟨g,0,aC⟩) n cap) n ((D++y::T).flatMap BAt.cells)
 len:(D++y::T).length=n
 few:n<=62
 oth:∀x∈D++T,CP c [g,X,Y] W x.v x.ls/\Dx x.name x.ls
 mine:CP c [g,X,Y] W bv ls/\Dx bn ls
theorem FD.V{cap:Nat}(h:FD B p c X Y w1 D T y g n cap kk bk bn bv ls W)(a:Below W.heap.size W W'):FD B p c X Y w1 D T y g n cap kk bk bn bv ls W' :=
 ⟨h.rd.V a,Ar h.gr (A2 a _),h.plt,h.cw,(a.block X (aF.1 h.xb).1).trans h.xb,(a.block Y (aF.1 h.yb).1).trans h.yb,h.cX,h.cY,h.XY,h.gX,h.gY,AL h.row a,h.len,h.few,fun x b=>⟨(h.oth x b).1.V a,(h.oth x b).2⟩,h.mine.1.V a,h.mine.2⟩
theorem FD.grown{cap:Nat}(h:FD B p c X Y w1 D T y g n cap kk bk bn bv ls W)(a:W.grownBy W' (aB p))(d:Rd B W' p kk'):FD B p c X Y w1 D T y g n cap kk' bk bn bv ls W':=by
 have e:p<X:=aO h.plt h.cX;have f:p<Y:=aO h.plt h.cY;exact⟨d,Ar h.gr a,h.plt,h.cw,BV.grown a X _ e h.xb,BV.grown a Y _ f h.yb,h.cX,h.cY,h.XY,h.gX,h.gY,Gq h.row a h.plt,h.len,h.few,fun x b=>⟨(h.oth x b).1.grown a (.inl h.plt),(h.oth x b).2⟩,h.mine.1.grown a (.inl h.plt),h.mine.2⟩
theorem FD.head{cap:Nat}(h:FD B p c X Y w1 D T y g n cap kk bk bn bv ls W)(f:W'.heap[Y]?=aB (aN #[.string bk',.string bn',bv] 46 (0,0)))(j:bn'.size<=1048576)(a:W.grownBy W' (aB Y)):FD B p c X Y w1 D T y g n cap kk bk' bn' bv ls W':=by
 have k:X<W.heap.size:=(aF.1 h.xb).1;have o:=(h.row.lt g rfl).1;refine⟨AN.rd h.rd (AN.ai (S:=[Y]) a (fun q l=>by cases l;simp)) (fun i b=>by rw[aJ.1 b];have:=h.cY;have:=h.plt;omega),⟨a.os.trans h.gr.os,a.tape.trans h.gr.tape,a.output.trans h.gr.output,aP h.gr.size a.size,fun i b m=>?_⟩,h.plt,h.cw,?_,f,h.cX,h.cY,h.XY,h.gX,h.gY,bB h.row a (.inr (fun e=>by cases e;exact h.gY rfl)),h.len,h.few,fun x d=>⟨(h.oth x d).1.grown a (.inr (by simp)),(h.oth x d).2⟩,⟨h.mine.1.grown a (.inr (by simp)),j,h.mine.2.2⟩⟩
 ·have r:=h.cY;have s:=h.cw;have:=h.gr.size;rw[a.block i (by omega) (by intro e;cases e;omega)];exact h.gr.block i b m
 ·rw[a.block X k (by intro e;cases e;exact h.XY rfl)];exact h.xb
theorem FD.push{z:BAt}{g' cap cap':Nat}(h:FD B p c X Y w1 D T y g n cap kk bk bn bv ls W)(a:W.grownBy W' (aB g))(r:W'.ownsRow c 46 3 (aA (aB ⟨g',0,aC⟩) (n+1) cap') (n+1) ((D++y::(T++[z])).flatMap BAt.cells))(m:CP c [g,X,Y] W z.v z.ls/\Dx z.name z.ls)(s:g'=g\/W.heap.size<=g')(o:g'≠X)(t:g'≠Y)(u:n+1<=62):
  FD B p c X Y w1 D (T++[z]) y g' (n+1) cap' kk bk bn bv ls (W'.setCell ⟨X,0,aC⟩ (aA (aB ⟨g',0,aC⟩) (n+1) cap')):=by
 have w:X<W.heap.size:=(aF.1 h.xb).1;have A:Y<W.heap.size:=(aF.1 h.yb).1;have H:=(h.row.lt g rfl).1;have I:=h.cX;have J:=h.cw;have K:=h.gr.size;have L:=a.size;have M:=h.plt;have b:W'.grownBy (W'.setCell ⟨X,0,aC⟩ (aA (aB ⟨g',0,aC⟩) (n+1) cap')) (aB X):=⟨rfl,rfl,rfl,by simp,fun i _ d=>heap_setCell_other W' ⟨X,0,aC⟩ i _ (fun e=>d (by simp[e]))⟩;have C:W'.heap[X]?=aB (aN #[aA (aB ⟨g,0,aC⟩) n cap] 25 (0,0)):=(a.block X w (by intro e;cases e;exact h.gX rfl)).trans h.xb;have E:W'.heap[Y]?=aB (aN #[.string bk,.string bn,bv] 46 (0,0)):=(a.block Y A (by intro e;cases e;exact h.gY rfl)).trans h.yb;have l:∀ {v:Value} {ls:List LAt},CP c [g,X,Y] W v ls->CP c [g',X,Y] (W'.setCell ⟨X,0,aC⟩ (aA (aB ⟨g',0,aC⟩) (n+1) cap')) v ls:=fun {v ls} j=>by
  refine⟨((j.grown a (.inr (by simp))).grown b (.inr (by simp))).1,fun q k=>?_,j.2.2⟩;simp only[aR,bC,or_false]at k;rcases k with rfl | rfl | rfl
  ·rcases s with e | e
   ·rw[e];exact j.2.1 g (by simp)
   ·exact j.1.fresh e
  ·exact j.2.1 _ (by simp)
  ·exact j.2.1 _ (by simp)
 refine⟨?_,⟨b.os.trans (a.os.trans h.gr.os),b.tape.trans (a.tape.trans h.gr.tape),b.output.trans (a.output.trans h.gr.output),by have:=b.size;omega,fun i d F=>?_⟩,h.plt,h.cw,?_,?_,h.cX,h.cY,h.XY,o,t,?_,?_,u,fun x f=>?_,l h.mine.1,h.mine.2⟩
 ·have G:=AN.rd h.rd (AN.ai (S:=[g]) a (fun q k=>by cases k;simp)) (fun i d=>by rw[aJ.1 d];omega);exact AN.rd G (AN.ai (S:=[X]) b (fun q k=>by cases k;simp)) (fun i d=>by rw[aJ.1 d];omega)
 ·rw[b.block i (by omega) (by intro e;cases e;omega),a.block i (by omega) (by intro e;cases e;omega)];exact h.gr.block i d F
 ·rw[heap_setCell_same W' X 0 _ _ _ C];rfl
 ·rw[b.block Y (by omega) (by intro e;cases e;exact h.XY rfl)];exact E
 ·exact bB r b (.inr (fun e=>by cases e;exact o rfl))
 ·have:=h.len;simp at this⊢;omega
 ·rw[<-List.append_assoc]at f;rcases aZ.1 f with f | f
  ·exact⟨l (h.oth x f).1,(h.oth x f).2⟩
  ·rw[aJ.1 f];exact⟨l m.1,m.2⟩
theorem FD.ac{l:Nat}{cap:Nat}(h:FD B p c X Y w1 D T y g n cap kk bk bn y.v y.ls W)(d:Aq c W' (aA (aB ⟨g,0,aC⟩) n cap) (D++{ y with ls:=ls' }::T))(a:W.grownBy W' (aB l))(A:c<=l)(k:l≠X)(m:l≠Y)(o:(∀q∈[g,X,Y],Ay q y.v ls')/\∀q,q<c->Ay q y.v ls')(r:Dx bn ls'):FD B p c X Y w1 D T y g n cap kk bk bn y.v ls' W':=by
 have s:X<W.heap.size:=(aF.1 h.xb).1;have t:Y<W.heap.size:=(aF.1 h.yb).1;have C:=h.cw;have E:=h.gr.size;have F:=h.plt;have j:=d.row;have u:(D++{ y with ls:=ls' }::T).length=n:=by rw[<-h.len];simp
 have v:(D++{ y with ls:=ls' }::T).flatMap BAt.cells=(D++y::T).flatMap BAt.cells:=by simp[BAt.cells]
 rw[u,v]at j;refine⟨AN.rd h.rd (AN.ai (S:=[l]) a (fun q w=>by cases w;simp)) (fun i f=>by rw[aJ.1 f];omega),⟨a.os.trans h.gr.os,a.tape.trans h.gr.tape,a.output.trans h.gr.output,aP h.gr.size a.size,fun i f z=>?_⟩,h.plt,h.cw,(a.block X s (by intro e;cases e;exact k rfl)).trans h.xb,(a.block Y t (by intro e;cases e;exact m rfl)).trans h.yb,h.cX,h.cY,h.XY,h.gX,h.gY,j,h.len,h.few,fun x b=>⟨⟨(d.ac x ?_).lin,(h.oth x b).1.2⟩,(h.oth x b).2⟩,⟨(d.ac { y with ls:=ls' } (by simp)).lin,o⟩,r⟩
 ·rw[a.block i (by omega) (by intro e;cases e;omega)];exact h.gr.block i f z
 ·simp only[aZ,aR]at b⊢;rcases b with b | b
  ·exact .inl b
  ·exact .inr (.inr b)
def Eg(d B p k:Nat)(w:World)(e:Ending)(w':World):Prop:=∃(a:Option Addr) (n c:Nat) (bs:List BAt) (k':Nat),e=aW (bE #[aA a n c])/\k'<=k+d/\Rd B w' p k'/\w.grownBy w' (aB p)/\As w' (aA a n c) bs/\(Ax bs/\bs.length<=62)/\∀q,q<w.heap.size->AD q (aA a n c) bs
theorem FD.out{cap:Nat}(h:FD B p c X Y w1 D T y g n cap kk bk bn bv ls W)(F:c=w.heap.size+2)(l:w.grownBy w1 (aB p))(u:kk<=k+d)(G:p<w.heap.size)(cs:Array Value):Eg d B p k w (aW (bE #[aA (aB ⟨g,0,aC⟩) n cap])) ((W.setCells g (D.length*3) [.string bk,.string bn,bv]).setRow (w.heap.size+1) cs)/\(W.setCells g (D.length*3) [.string bk,.string bn,bv]).heap[X]?=W.heap[X]?/\W.there g (D.length*3) 3/\(W.setCells g (D.length*3) [.string bk,.string bn,bv]).heap[w.heap.size+1]?=W.heap[w.heap.size+1]?:=by
 have H:=h.row.lt g rfl;have v:X<W.heap.size:=(aF.1 h.xb).1;have I:=h.gr.size;have J:=h.cw;obtain⟨ys,s,b,z⟩:=BT [.string bk,.string bn,bv] (D.length*3) W _ h.row;have A:=z (D.flatMap BAt.cells) y.cells (T.flatMap BAt.cells) (by simp) (Bn _ 3 BAt.len D) (by rw[BAt.len];rfl);rw[A]at s;have f:=Ba (W.setCells g (D.length*3) [.string bk,.string bn,bv]) (w.heap.size+1) cs;have m:(D++(⟨bk,bn,bv,ls⟩:BAt)::T).length=n:=by rw[<-h.len];simp
 have r:∀x∈D++(⟨bk,bn,bv,ls⟩:BAt)::T,CP c [g,X,Y] W x.v x.ls/\Dx x.name x.ls:=by
  intro x a;simp only[aZ,aR]at a;rcases a with a | rfl | a
  ·exact h.oth x (by simp[a])
  ·exact h.mine
  ·exact h.oth x (by simp[a])
 have C:As ((W.setCells g (D.length*3) [.string bk,.string bn,bv]).setRow (w.heap.size+1) cs) (aA (aB ⟨g,0,aC⟩) n cap) (D++(⟨bk,bn,bv,ls⟩:BAt)::T):=by
  refine⟨?_,fun x a=>?_⟩
  ·rw[m];have:=AG (GI s (w.heap.size+1) (by omega) cs);simpa [BAt.cells] using this
  ·exact(((r x a).1.grown b (.inr (by simp))).grown f (.inl (by omega))).1
 refine⟨⟨_,n,cap,D++(⟨bk,bn,bv,ls⟩:BAt)::T,kk,rfl,u,?_,⟨?_,?_,?_,?_,fun i j t=>?_⟩,C,⟨⟨by rw[m];exact aP h.few (by decide),fun x a=>(r x a).2⟩,by rw[m];exact h.few⟩,fun q o=>⟨?_,fun x a=>(r x a).1.2.2 q (by omega)⟩⟩,?_,CJ h.row _ _ ?_,?_⟩
 ·have E:=AN.rd h.rd (AN.ai (S:=[g]) b (fun q o=>by cases o;simp)) (fun i j=>by rw[aJ.1 j];omega);exact AN.rd E (AN.ai (S:=[w.heap.size+1]) f (fun q o=>by cases o;simp)) (fun i j=>by rw[aJ.1 j];omega)
 ·exact(f.os.trans b.os).trans (h.gr.os.trans l.os)
 ·exact(f.tape.trans b.tape).trans (h.gr.tape.trans l.tape)
 ·exact(f.output.trans b.output).trans (h.gr.output.trans l.output)
 ·have:=f.size;have:=b.size;omega
 ·rw[f.block i (by have:=b.size;omega) (by intro e;cases e;omega),b.block i (by omega) (by intro e;cases e;omega),h.gr.block i (by omega) t];exact l.block i j t
 ·rw[m];exact Cc.above h.row (by omega)
 ·exact b.block X v (by intro e;cases e;exact h.gX rfl)
 ·have:D.length+1<=n:=by rw[<-h.len];simp
  omega
 ·exact b.block (w.heap.size+1) (by omega) (by intro e;cases e;omega)
variable {α:Type}{m nl yc nw wc nI i base:Nat}{yk yn xk:ByteArray}{E:List LAt}{bv' lv xv:Value}{J:Nat -> World -> Prop}{e:TypeId}{xs:List Value}
theorem Ay.same(h:Ay q v ls)(a:ls'.length=ls.length)(b:∀x∈ls',∃y∈ls,x.v=y.v/\x.ws.length=y.ws.length):Ay q v ls':=by
 refine⟨by rw[a];exact h.1,fun x c=>?_⟩;obtain⟨y,d,e,f⟩:=b x c;rw[e,f];exact h.2 y d
theorem E4(W:World)(g j:Nat)(u:Value):W.grownBy (W.setCell ⟨g,j,aC⟩ u) (aB g):=⟨rfl,rfl,rfl,by simp,fun i _ a=>heap_setCell_other W ⟨g,j,aC⟩ i _ (fun e=>a (by simp[e]))⟩
theorem mem_mid{A E:List α}{x a z:α}(h:z∈A++a::E):z=a\/z∈A++x::E:=by
 simp only[aZ,aR]at h⊢;rcases h with h | h | h
 ·exact .inr (.inl h)
 ·exact .inl h
 ·exact .inr (.inr (.inr h))
theorem Ff{l a:Nat}(h:Cc q (aA (aB ⟨l,0,aC⟩) m a) n)(b:0<n):l≠q:=by
 rcases h with h | h
 ·omega
 ·exact h l 0 m a rfl
theorem FD.key{l:Nat}{A:List LAt}{x:LAt}{cap:Nat}(h:FD B p c X Y w1 D T ⟨yk,yn,aA (aB ⟨l,0,aC⟩) nl yc,A++x::E⟩ g n cap kk bk bn (aA (aB ⟨l,0,aC⟩) nl yc) (A++x::E) W)(f:Aq c W (aA (aB ⟨g,0,aC⟩) n cap) (D++⟨yk,yn,aA (aB ⟨l,0,aC⟩) nl yc,A++x::E⟩::T))(i:(A++x::E).length=nl)(u:ByteArray):
  FD B p c X Y w1 D T ⟨yk,yn,aA (aB ⟨l,0,aC⟩) nl yc,A++x::E⟩ g n cap kk bk bn (aA (aB ⟨l,0,aC⟩) nl yc) (A++{ x with key:=u }::E) (W.setCell ⟨l,A.length*2,aC⟩ (.string u)):=by
 have j:0<(A++x::E).length:=by simp;omega
 have d:∀q,Ay q (aA (aB ⟨l,0,aC⟩) nl yc) (A++x::E)->l≠q/\Ay q (aA (aB ⟨l,0,aC⟩) nl yc) (A++{ x with key:=u }::E):=fun q b=>by
  refine⟨Ff b.1 j,b.same (by simp) fun e a=>?_⟩;rcases mem_mid (x:=x) a with rfl | a
  ·exact⟨x,by simp,rfl,rfl⟩
  ·exact⟨e,a,rfl,rfl⟩
 have k:=f.bm.ac.set i 0 (.string u) { x with key:=u } (by decide) rfl rfl;have m:=(BM.back (r:=⟨yk,yn,aA (aB ⟨l,0,aC⟩) nl yc,A++x::E⟩) k).own;have o:=(f.ac _ (show (⟨yk,yn,aA (aB ⟨l,0,aC⟩) nl yc,A++x::E⟩:BAt)∈D++⟨yk,yn,aA (aB ⟨l,0,aC⟩) nl yc,A++x::E⟩::T by simp)).row.lt l rfl;refine FD.ac (l:=l) h m (E4 W l _ _) o.1 (d X (h.mine.1.2.1 X (by simp))).1 (d Y (h.mine.1.2.1 Y (by simp))).1 ⟨fun q b=>(d q (h.mine.1.2.1 q b)).2,fun q b=>(d q (h.mine.1.2.2 q b)).2⟩ ⟨h.mine.2.1,by have:=h.mine.2.2.1;simp only[bD,bG]at this⊢;exact this,fun e a=>?_⟩;rcases mem_mid (x:=x) a with rfl | a
 ·exact h.mine.2.2.2 x (by simp)
 ·exact h.mine.2.2.2 e a
theorem FD.word{l r:Nat}{key:ByteArray}{A:List LAt}{s:List UInt8}{b:List (List UInt8)}{cap:Nat}(h:FD B p c X Y w1 D T ⟨yk,yn,aA (aB ⟨l,0,aC⟩) nl yc,A++⟨key,aA (aB ⟨r,0,aC⟩) nw wc,s::b⟩::E⟩ g n cap kk bk bn (aA (aB ⟨l,0,aC⟩) nl yc) (A++⟨key,aA (aB ⟨r,0,aC⟩) nw wc,s::b⟩::E) W)(z:Aq c W (aA (aB ⟨g,0,aC⟩) n cap) (D++⟨yk,yn,aA (aB ⟨l,0,aC⟩) nl yc,A++⟨key,aA (aB ⟨r,0,aC⟩) nw wc,s::b⟩::E⟩::T))(t:ByteArray)(I:t.size<=201):
  FD B p c X Y w1 D T ⟨yk,yn,aA (aB ⟨l,0,aC⟩) nl yc,A++⟨key,aA (aB ⟨r,0,aC⟩) nw wc,s::b⟩::E⟩ g n cap kk bk bn (aA (aB ⟨l,0,aC⟩) nl yc) (A++⟨key,aA (aB ⟨r,0,aC⟩) nw wc,t.data.toList::b⟩::E) (W.setCell ⟨r,0,aC⟩ (.string t)):=by
 have u:=z.bm.ac;have i:W.ownsRow c 9 1 (aA (aB ⟨r,0,aC⟩) nw wc) (s::b).length (strs (s::b)):=u.words;have v:(s::b).length=nw:=by
  obtain⟨a,J,e,_⟩:=Ak i;cases e
  rfl
 have C:=i.lt r rfl;rw[v]at i;have k:=i.stored 0 (.string t);have F:(strs (s::b)).set 0 (.string t)=strs (t.data.toList::b):=by simp[strs]
 rw[F]at k;have j:∀q,Ay q (aA (aB ⟨l,0,aC⟩) nl yc) (A++⟨key,aA (aB ⟨r,0,aC⟩) nw wc,s::b⟩::E)->r≠q/\Ay q (aA (aB ⟨l,0,aC⟩) nl yc) (A++⟨key,aA (aB ⟨r,0,aC⟩) nw wc,t.data.toList::b⟩::E):=fun q f=>by
  refine⟨Ff (f.2 ⟨key,aA (aB ⟨r,0,aC⟩) nw wc,s::b⟩ (by simp)) (by simp),f.same (by simp) fun m d=>?_⟩;rcases mem_mid (x:=⟨key,aA (aB ⟨r,0,aC⟩) nw wc,s::b⟩) d with rfl | d
  ·exact⟨⟨key,aA (aB ⟨r,0,aC⟩) nw wc,s::b⟩,by simp,rfl,by simp⟩
  ·exact⟨m,d,rfl,rfl⟩
 have G:=u.turn (w':=W.setCell ⟨r,0,aC⟩ (.string t)) (t.data.toList::b) (by simp) (by rw[show (⟨key,aA (aB ⟨r,0,aC⟩) nw wc,s::b⟩:LAt).ws.length=nw from v];exact k.1) k.2;have H:=(BM.back (r:=⟨yk,yn,aA (aB ⟨l,0,aC⟩) nl yc,A++⟨key,aA (aB ⟨r,0,aC⟩) nw wc,s::b⟩::E⟩) G).own;refine FD.ac (l:=r) h H (E4 W r _ _) C.1 (j X (h.mine.1.2.1 X (by simp))).1 (j Y (h.mine.1.2.1 Y (by simp))).1 ⟨fun q f=>(j q (h.mine.1.2.1 q f)).2,fun q f=>(j q (h.mine.1.2.2 q f)).2⟩ ⟨h.mine.2.1,by have:=h.mine.2.2.1;simp only[bD,bG]at this⊢;exact this,fun m d=>?_⟩;rcases mem_mid (x:=⟨key,aA (aB ⟨r,0,aC⟩) nw wc,s::b⟩) d with rfl | d
 ·have w:=h.mine.2.2.2 ⟨key,aA (aB ⟨r,0,aC⟩) nw wc,s::b⟩ (by simp);refine⟨by have:=w.1;simp only[bG]at this⊢;exact this,fun y o=>?_⟩;rcases aR.1 o with rfl | o
  ·have:t.data.toList.length=t.size:=rfl;omega
  ·exact w.2 y (bI _ o)
 ·exact h.mine.2.2.2 m d
theorem FD.swap{l:Nat}{x0 x1:LAt}{cap:Nat}(h:FD B p c X Y w1 D T ⟨yk,yn,aA (aB ⟨l,0,aC⟩) nl yc,x0::x1::E⟩ g n cap kk bk bn (aA (aB ⟨l,0,aC⟩) nl yc) (x0::x1::E) W)(f:Aq c W (aA (aB ⟨g,0,aC⟩) n cap) (D++⟨yk,yn,aA (aB ⟨l,0,aC⟩) nl yc,x0::x1::E⟩::T))(i:(x0::x1::E).length=nl):
  FD B p c X Y w1 D T ⟨yk,yn,aA (aB ⟨l,0,aC⟩) nl yc,x0::x1::E⟩ g n cap kk bk bn (aA (aB ⟨l,0,aC⟩) nl yc) (x1::x0::E) ((W.setCells l 0 x1.cells).setCells l 2 x0.cells):=by
 have j:=f.bm.ac;obtain⟨ys,s,t,u⟩:=BT x1.cells 0 W _ (j.size i);have v:=u [] x0.cells ((x1::E).flatMap LAt.cells) (by simp) rfl rfl;obtain⟨w,k,z2,z3⟩:=BT x0.cells 2 _ _ s;have a:=z3 x1.cells x1.cells (E.flatMap LAt.cells) (by rw[v];simp) rfl rfl;have x:w=(x1::x0::E).flatMap LAt.cells:=by rw[a];simp
 rw[x]at k;have m:=Ar t z2;have y:Az c W (⟨aA (aB ⟨l,0,aC⟩) nl yc,115,2,(x0::x1::E).length,(x0::x1::E).flatMap LAt.cells⟩::((x0::x1::E).map LAt.row++EM (aA (aB ⟨g,0,aC⟩) n cap) D ⟨yk,yn,aA (aB ⟨l,0,aC⟩) nl yc,x0::x1::E⟩ T [])):=j;have z:=Az.turn (r':=⟨aA (aB ⟨l,0,aC⟩) nl yc,115,2,(x0::x1::E).length,(x1::x0::E).flatMap LAt.cells⟩) y rfl (by show World.ownsRow _ _ _ _ _ _ _;rw[i];exact k) m
 have A:LM c ((W.setCells l 0 x1.cells).setCells l 2 x0.cells) (aA (aB ⟨l,0,aC⟩) nl yc) (x1::x0::E) (EM (aA (aB ⟨g,0,aC⟩) n cap) D ⟨yk,yn,aA (aB ⟨l,0,aC⟩) nl yc,x0::x1::E⟩ T []) :=
  Az.perm z (List.Perm.cons _ (List.Perm.append_right _ (List.Perm.map _ (List.Perm.swap _ _ _))))
 have C:=(BM.back (r:=⟨yk,yn,aA (aB ⟨l,0,aC⟩) nl yc,x0::x1::E⟩) A).own;have F:=(f.ac _ (show (⟨yk,yn,aA (aB ⟨l,0,aC⟩) nl yc,x0::x1::E⟩:BAt)∈D++⟨yk,yn,aA (aB ⟨l,0,aC⟩) nl yc,x0::x1::E⟩::T by simp)).row.lt l rfl;have o:∀b∈x1::x0::E,b∈x0::x1::E:=fun b a=>by
  simp only[aR]at a⊢;rcases a with a | a | a
  ·exact .inr (.inl a)
  ·exact .inl a
  ·exact .inr (.inr a)
 have e:∀q,Ay q (aA (aB ⟨l,0,aC⟩) nl yc) (x0::x1::E)->l≠q/\Ay q (aA (aB ⟨l,0,aC⟩) nl yc) (x1::x0::E):=fun q d=>⟨Ff d.1 (by simp),d.same (by simp) fun b a=>⟨b,o b a,rfl,rfl⟩⟩
 exact FD.ac (l:=l) h C m F.1 (e X (h.mine.1.2.1 X (by simp))).1 (e Y (h.mine.1.2.1 Y (by simp))).1 ⟨fun q d=>(e q (h.mine.1.2.1 q d)).2,fun q d=>(e q (h.mine.1.2.2 q d)).2⟩ ⟨h.mine.2.1,by have:=h.mine.2.2.1;simp only[bG]at this⊢;exact this,fun b a=>h.mine.2.2.2 b (o b a)⟩
theorem FD.lay{cap:Nat}(h:FD B p c X Y w1 D T y g n cap kk bk bn bv ls W)(f:W'.heap[Y]?=aB (aN #[.string bk',.string bn',bv'] 46 (0,0)))(a:W.grownBy W' (aB Y))(j:CP c [g,X,Y] W' bv' ls'/\Dx bn' ls'):FD B p c X Y w1 D T y g n cap kk bk' bn' bv' ls' W':=by
 have k:X<W.heap.size:=(aF.1 h.xb).1;refine⟨AN.rd h.rd (AN.ai (S:=[Y]) a (fun q l=>by cases l;simp)) (fun i b=>by rw[aJ.1 b];have:=h.cY;have:=h.plt;omega),⟨a.os.trans h.gr.os,a.tape.trans h.gr.tape,a.output.trans h.gr.output,aP h.gr.size a.size,fun i b m=>?_⟩,h.plt,h.cw,?_,f,h.cX,h.cY,h.XY,h.gX,h.gY,bB h.row a (.inr (fun e=>by cases e;exact h.gY rfl)),h.len,h.few,fun x d=>⟨(h.oth x d).1.grown a (.inr (by simp)),(h.oth x d).2⟩,j⟩
 ·have o:=h.cY;have r:=h.cw;have:=h.gr.size;rw[a.block i (by omega) (by intro e;cases e;omega)];exact h.gr.block i b m
 ·rw[a.block X k (by intro e;cases e;exact h.XY rfl)];exact h.xb
theorem FD.app{l:Nat}{cap:Nat}(h:FD B p c X Y w1 D T y g n cap kk bk bn y.v y.ls W)(A:Aq c W (aA (aB ⟨g,0,aC⟩) n cap) (D++y::T))(o:y.v.ownBlock=aB l)(J:0<y.ls.length)(j:W.grownBy W' (aB l))(w:W'.ownsRow c 115 2 v' ls'.length (ls'.flatMap LAt.cells))(m:v'.ownBlock=aB l\/v'.ownBlock=aB W.heap.size)(z:∀x∈ls',x∈y.ls)(K:ls'.length<=1048576):
  FD B p c X Y w1 D T y g n cap kk bk bn v' ls' (W'.setCell ⟨Y,2,aC⟩ v'):=by
 have L:X<W.heap.size:=(aF.1 h.xb).1;have M:Y<W.heap.size:=(aF.1 h.yb).1;have ac:=h.cw;have ad:=h.gr.size;have ae:=h.plt;have af:=h.cX;have ag:=h.cY;have C:Az c W (⟨y.v,115,2,y.ls.length,y.ls.flatMap LAt.cells⟩::(y.ls.map LAt.row++EM (aA (aB ⟨g,0,aC⟩) n cap) D y T [])):=A.bm.ac;have ah:=(Az.lt C (bV ..) o);have E:=Az.grow (r':=⟨v',115,2,ls'.length,ls'.flatMap LAt.cells⟩) C w (by rw[o];exact j) (by rw[o];exact m);have t:∀q,Cc q y.v y.ls.length->l≠q:=fun q a=>by
  rcases(A.ac y (by simp)).row.2 with ⟨e,ai⟩ | ⟨aj,ak,al,e,_⟩
  ·omega
  ·rw[e]at o a;cases o
   exact Ff a J
 have N:l≠X:=t X (h.mine.1.2.1 X (by simp)).1;have O:l≠Y:=t Y (h.mine.1.2.1 Y (by simp)).1;have am:l≠g:=t g (h.mine.1.2.1 g (by simp)).1;have an:Aq c W' (aA (aB ⟨g,0,aC⟩) n cap) (D++{ y with v:=y.v,ls:=[] }::T)\/True:=.inr trivial;have d:=E4 W' Y 2 v';have ao:=j.size;have F:∀r∈EM (aA (aB ⟨g,0,aC⟩) n cap) D y T [],r.isAt c W':=fun r u=>E.1 r (by simp[u])
 have P:∀x∈y.ls,W'.ownsRow c 9 1 x.v x.ws.length (strs x.ws):=fun x b=>E.1 x.row (bI _ (List.mem_append_left _ (aV b)))
 have Q:∀x∈D++T,An W' x.v x.ls:=by
  intro x b;have G:∀r∈CE x.v x.ls,r.isAt c W':=fun r u=>F r (by
   unfold EM;simp only[aZ,aR,List.mem_flatMap]at b⊢;rcases b with b | b
   ·exact .inl (.inr ⟨x,b,u⟩)
   ·exact .inr (.inl ⟨x,b,u⟩))
  exact⟨AG (G _ (bV ..)),fun f k=>AG (G f.row (bI _ (aV k)))⟩
 have R:W'.ownsRow c 46 3 (aA (aB ⟨g,0,aC⟩) n cap) n ((D++y::T).flatMap BAt.cells):=by
  have:=F ⟨aA (aB ⟨g,0,aC⟩) n cap,46,3,(D++y::T).length,(D++y::T).flatMap BAt.cells⟩ (by unfold EM;simp);rw[h.len]at this;exact this
 have U:W'.heap[Y]?=aB (aN #[.string bk,.string bn,y.v] 46 (0,0)):=(j.block Y M (by intro e;cases e;exact O rfl)).trans h.yb;have V:An W' v' ls':=⟨AG w,fun f k=>AG (P f (z f k))⟩;have H:∀q,q<W.heap.size->Ay q y.v y.ls->Ay q v' ls':=fun q a I=>by
  refine⟨Cc.of_own w ?_,fun f k=>I.2 f (z f k)⟩;intro e;rcases m with m | m
  ·rw[m]at e;exact t q I.1 (bA e)
  ·rw[m]at e;have:=bA e;omega
 have ap:=(h.row.lt g rfl).2;have Z:CP c [g,X,Y] W' v' ls':=⟨V,fun q a=>H q (by simp only[aR,bC,or_false]at a;rcases a with rfl | rfl | rfl <;> assumption) (h.mine.1.2.1 q a),fun q a=>H q (by omega) (h.mine.1.2.2 q a)⟩
 refine⟨?_,⟨d.os.trans (j.os.trans h.gr.os),d.tape.trans (j.tape.trans h.gr.tape),d.output.trans (j.output.trans h.gr.output),by have:=d.size;omega,fun i s aa=>?_⟩,h.plt,h.cw,?_,?_,h.cX,h.cY,h.XY,h.gX,h.gY,bB R d (.inr (fun e=>by cases e;exact h.gY rfl)),h.len,h.few,fun x b=>⟨CP.grown ⟨Q x b,(h.oth x b).1.2⟩ d (.inr (by simp)),(h.oth x b).2⟩,Z.grown d (.inr (by simp)),h.mine.2.1,K,fun f k=>h.mine.2.2.2 f (z f k)⟩
 ·have ab:=AN.rd h.rd (AN.ai (S:=[l]) j (fun q a=>by cases a;simp)) (fun i s=>by rw[aJ.1 s];omega);exact AN.rd ab (AN.ai (S:=[Y]) d (fun q a=>by cases a;simp)) (fun i s=>by rw[aJ.1 s];omega)
 ·rw[d.block i (by omega) (by intro e;cases e;omega),j.block i (by omega) (by intro e;cases e;omega)];exact h.gr.block i s aa
 ·rw[d.block X (by omega) (by intro e;cases e;exact h.XY rfl),j.block X L (by intro e;cases e;exact N rfl)];exact h.xb
 ·rw[heap_setCell_same W' Y 2 _ _ _ U];rfl
def Aa3:List ByteArray:=[⟨#[]⟩,⟨#[105,109,97,103,101]⟩,⟨#[122,111,110,101]⟩]
def Ir(p Y l nI:Nat)(lv:Value)(i:Nat)(x:Value)(W:World):Prop:=match i with
 | 0=>x=aD (aB ⟨Y,2,aC⟩)
 | 1=>x=lv
 | 2=>x=.int .i64 (nI:Int)
 | 3=>∃t,x=aA (aB ⟨t,0,aC⟩) 3 3/\Hx p W t Aa3
 | 4=>x=aD (aB ⟨p,0,aC⟩)
 | 5=>∃y:Nat,y<3/\x=.int .i64 (y:Int)
 | 6=>∃t y:Nat,y<3/\x=aD (aB ⟨t,y,aC⟩)/\Hx p W t Aa3
 | 7=>∃u,x=.string u
 | 8=>x=aD (aB ⟨l,nI*2,aC⟩)
 | 9=>x=aD (aB ⟨l,nI*2,aC⟩)
 | _=>True
theorem Ir.af{l:Nat}(k:BV p W W'):∀(i:Nat) (x:Value),Ir p Y l nI lv i x W->Ir p Y l nI lv i x W':=by
 intro i x h;unfold Ir at *;split <;> simp only at h
 ·exact h
 ·exact h
 ·exact h
 ·obtain⟨t,e,a⟩:=h;exact⟨t,e,a.af k⟩
 ·exact h
 ·exact h
 ·obtain⟨t,y,b,e,a⟩:=h;exact⟨t,y,b,e,a.af k⟩
 ·exact h
 ·exact h
 ·exact h
 ·trivial
def TU(J:Nat->World->Prop)(m kk d:Nat)(L:Nat->Bool)(W:World):Prop:=∃k',k'<=kk+(if L m=true then d else 0)/\J k' W
theorem TU.af{L:Nat->Bool}(h:TU J m kk d L W)(a:i≠m)(b:∀k,J k W->J k W'):TU J m kk d (CF L i) W':=by
 obtain⟨k',c,h⟩:=h;refine⟨k',?_,b _ h⟩;simpa [CF,Ne.symm a] using c
theorem TU.get{L:Nat->Bool}(h:TU J m kk d L W):∃k',k'<=kk+d/\J k' W:=by
 obtain⟨k',a,h⟩:=h;exact⟨k',by split at a <;> omega,h⟩
def Af8(p Y l nI r nw wc:Nat)(lv:Value)(i:Nat)(x:Value):Prop:=match i with
 | 0=>x=aD (aB ⟨Y,2,aC⟩)
 | 1=>x=lv
 | 2=>x=.int .i64 (nI:Int)
 | 3=>x=aD (aB ⟨l,nI*2,aC⟩)
 | 4=>x=aD (aB ⟨l,nI*2+1,aC⟩)
 | 5=>x=aA (aB ⟨r,0,aC⟩) nw wc
 | 6=>x=aD (aB ⟨p,0,aC⟩)
 | 7=>∃t:ByteArray,t.size<=201/\x=.string t
 | 8=>x=aD (aB ⟨r,0,aC⟩)
 | _=>True
def TV(Y l nI nl yc:Nat)(xk:ByteArray)(xv:Value)(J:Value->World->Prop)(i:Nat)(x:Value)(W:World):Prop:=match i with
 | 0=>x=aD (aB ⟨Y,2,aC⟩)
 | 1=>x=aA (aB ⟨l,0,aC⟩) nl yc
 | 2=>x=aD (aB ⟨Y,2,aC⟩)
 | 3=>x=aA (aB ⟨l,0,aC⟩) nl yc
 | 4=>x=.int .i64 (nI:Int)
 | 5=>x=aD (aB ⟨l,nI*2,aC⟩)
 | 6=>x=bE #[.string xk,xv]
 | 7=>∃t,x=aA (aB ⟨t,0,aC⟩) 1 1/\l<t/\W.heap[t]?=aB (aN #[.string xk,xv] 115 (0,0))
 | 8=>∃a c,x=aA (aB ⟨a,0,aC⟩) (nl+1) c/\J x W
 | 9=>x=aD (aB ⟨Y,2,aC⟩)
 | _=>True
theorem TV.af{l:Nat}{J:Value->World->Prop}(k:BV l W W'):∀(i:Nat) (x:Value),i≠8->TV Y l nI nl yc xk xv J i x W->TV Y l nI nl yc xk xv J i x W':=by
 intro i x b h;unfold TV at *;split <;> simp only at h
 ·exact h
 ·exact h
 ·exact h
 ·exact h
 ·exact h
 ·exact h
 ·exact h
 ·obtain⟨t,e,a,c⟩:=h;exact⟨t,e,a,k t _ a c⟩
 ·exact absurd rfl b
 ·exact h
 ·trivial
def Ag6(Y:Nat)(yk yn:ByteArray)(lv:Value)(J:World->Prop)(L:Nat->Bool)(W:World):Prop:=W.heap[Y]?=aB (aN #[.string yk,.string yn,lv] 46 (0,0))/\(L 8=false->J W)/\(L 8=true->L 7=true)/\(L 7=true->L 6=true)
def Aee(B p c X Y:Nat)(w1:World)(D:List BAt)(y:BAt)(a kk:Nat)(yk yn:ByteArray)(bv:Value)(b:List LAt)(i:Value)(W:World):Prop:=∃(j:Nat) (T:List BAt) (g d kk':Nat),i=.int .i64 (j:Int)/\a+j<=61/\kk'<=kk+j/\FD B p c X Y w1 D T y g (a+j) d kk' yk yn bv b W
def Af9(p X g n cap:Nat)(i:Nat)(x:Value):Prop:=match i with
 | 0=>x=aD (aB ⟨X,0,aC⟩)
 | 1=>x=aA (aB ⟨g,0,aC⟩) n cap
 | 2=>x=.int .i64 (n:Int)
 | 3=>x=aD (aB ⟨p,0,aC⟩)
 | 4=>∃y:Nat,y<2/\x=.int .i64 (y:Int)
 | 5=>∃y:Nat,y<2/\x=.int .i64 (60+(y:Int))
 | 6=>∃b,x=.bool b/\(b=true->n<=60)
 | _=>True
theorem Aa4(w:World)(c d:UInt8):(convert 22 9 (aA (aB ⟨w.heap.size,0,aC⟩) 2 2)).run prog (w.alloc (aN #[.int .u8 (c.toNat:Int),.int .u8 (d.toNat:Int)] 5))=.ok (.string ⟨#[c,d]⟩) (w.alloc (aN #[.int .u8 (c.toNat:Int),.int .u8 (d.toNat:Int)] 5)) :=
 Jk _ _ w.heap.size [c,d] 2 (bS w #[.int .u8 (c.toNat:Int),.int .u8 (d.toNat:Int)] 2 (aM _) (by decide) rfl)
theorem KI{size:Nat}{a:Option Addr}(h:w.ownsRow base e size (aA a n c) m xs)(d:m≠0):∃l,a=aB ⟨l,0,aC⟩:=by
 obtain⟨a',g,f,b⟩:=Ak h;cases f
 rcases b with b | b
 ·exact absurd b d
 ·exact b
theorem Yx(w:World)(o:Obj)(t:ByteArray):((w.alloc o).alloc (aN #[.string t] 9)).ownsRow w.heap.size 9 1 (aA (aB ⟨w.heap.size+1,0,aC⟩) 1 1) 1 (strs [t.data.toList]):=by
 have h:((w.alloc o).alloc (aN #[.string t] 9)).ownsRow (w.alloc o).heap.size 9 1 (aA (aB ⟨(w.alloc o).heap.size,0,aC⟩) 1 1) 1 [.string t]:=bS (w.alloc o) #[.string t] 1 (aM _) (by decide) rfl;rw[bX]at h;exact Cu h (by omega)
theorem TW(B:Nat)(w:World):A5 B w (aA aC 0 0) []:=Az.own1 (World.ownsRow_nil _ _ _ _)
theorem VH(j:Nat)(h:j<=26):((cE (97+j)).toNat:Int)=97+(j:Int):=by
 have:(cE (97+j)).toNat=97+j:=by
  rw[UInt8.toNat_ofNat'];omega
 rw[this];omega
def Aef(c Y:Nat)(d:World)(yn:ByteArray)(i:Value)(W:World):Prop:=∃(j:Nat) (a:Option Addr) (b:Nat) (ls:List LAt),i=.int .i64 (j:Int)/\j<=11/\ls.length=j/\d.grownBy W (aB Y)/\W.heap[Y]?=aB (aN #[.string ⟨#[98,101,114,116,104]⟩,.string yn,aA a j b] 46 (0,0))/\A5 c W (aA a j b) ls/\∀x∈ls,x.ws.length<=1/\∀y∈x.ws,y.length<=2
theorem A5.farAll{a:Nat}(h:A5 a W v ls)(b:q<a):Ay q v ls:=⟨Cc.above h.row b,fun y c=>Cc.above (h.words y c) b⟩
variable {Q:Exit -> Act -> World -> Prop}{a:Act}
def QK: Oper := ⟨aB 95, .fieldAddr 46 (.tmp 7) 2, 0, "l8_draw.go:204", #[], aC⟩
def QL: Oper := ⟨aB 96, .load 44 (.tmp 95), 44, "l8_draw.go:204", #[⟨0, .data⟩], aC⟩
def QM: Oper := ⟨aB 97, .move (.tmp 8), 3, "l8_draw.go:204", #[], aC⟩
def VI: Oper := ⟨aB 98, .buildSlice 52 3 #[(0, .const (.string { data := #[] })), (1, .const (.string { data := #[105, 109, 97, 103, 101] })), (2, .const (.string { data := #[122, 111, 110, 101] }))], 52, "l8_draw.go:204", #[], aC⟩
def QN: Oper := ⟨aB 99, .move (.tmp 0), 65, "l8_draw.go:204", #[], aC⟩
def QO: Oper := ⟨aB 100, .call { callee := .value (.func 44), args := #[.tmp 99, .const (.int .i64 3)], argTypes := #[65, 3] }, 3, "l8_draw.go:204", #[⟨4, .data⟩], aC⟩
def QP: Oper := ⟨aB 101, .indexAddr 52 (.tmp 98) (.tmp 100), 0, "l8_draw.go:204", #[⟨3, .data⟩, ⟨5, .data⟩], aC⟩
def QQ: Oper := ⟨aB 102, .load 9 (.tmp 101), 9, "l8_draw.go:204", #[⟨6, .data⟩], aC⟩
def QR: Oper := ⟨aB 103, .indexAddr 44 (.tmp 96) (.tmp 97), 0, "l8_draw.go:204", #[⟨1, .data⟩, ⟨2, .data⟩, ⟨0, .phase⟩, ⟨1, .phase⟩, ⟨2, .phase⟩, ⟨3, .phase⟩, ⟨4, .phase⟩, ⟨5, .phase⟩, ⟨6, .phase⟩, ⟨7, .phase⟩], aC⟩
def QS: Oper := ⟨aB 104, .fieldAddr 115 (.tmp 103) 0, 0, "l8_draw.go:204", #[⟨8, .data⟩, ⟨0, .phase⟩, ⟨1, .phase⟩, ⟨2, .phase⟩, ⟨3, .phase⟩, ⟨4, .phase⟩, ⟨5, .phase⟩, ⟨6, .phase⟩, ⟨7, .phase⟩], aC⟩
def LS: Oper := ⟨aC, .store 9 (.tmp 104) (.tmp 102), 0, "l8_draw.go:204", #[⟨9, .data⟩, ⟨7, .data⟩, ⟨5, .chain⟩, ⟨0, .phase⟩, ⟨1, .phase⟩, ⟨2, .phase⟩, ⟨3, .phase⟩, ⟨4, .phase⟩, ⟨5, .phase⟩, ⟨6, .phase⟩, ⟨7, .phase⟩], aC⟩
def Aga:List Oper:=[QK,QL,QM,VI,QN,QO,QP,QQ,QR,QS,LS]
def QT: Oper := ⟨aB 121, .fieldAddr 46 (.tmp 7) 2, 0, "l8_draw.go:208", #[], aC⟩
def QU: Oper := ⟨aB 122, .load 44 (.tmp 121), 44, "l8_draw.go:208", #[⟨0, .data⟩], aC⟩
def QV: Oper := ⟨aB 123, .move (.tmp 8), 3, "l8_draw.go:208", #[], aC⟩
def QW: Oper := ⟨aB 124, .indexAddr 44 (.tmp 122) (.tmp 123), 0, "l8_draw.go:208", #[⟨1, .data⟩, ⟨2, .data⟩], aC⟩
def QX: Oper := ⟨aB 125, .fieldAddr 115 (.tmp 124) 1, 0, "l8_draw.go:208", #[⟨3, .data⟩], aC⟩
def QY: Oper := ⟨aB 126, .load 52 (.tmp 125), 52, "l8_draw.go:208", #[⟨4, .data⟩], aC⟩
def QZ: Oper := ⟨aB 127, .move (.tmp 0), 65, "l8_draw.go:208", #[], aC⟩
def Ra: Oper := ⟨aB 128, .call { callee := .value (.func 164), args := #[.tmp 127], argTypes := #[65] }, 9, "l8_draw.go:208", #[⟨6, .data⟩], aC⟩
def Rb: Oper := ⟨aB 129, .indexAddr 52 (.tmp 126) (.const (.int .i64 0)), 0, "l8_draw.go:208", #[⟨5, .data⟩, ⟨0, .phase⟩, ⟨1, .phase⟩, ⟨2, .phase⟩, ⟨3, .phase⟩, ⟨4, .phase⟩, ⟨5, .phase⟩, ⟨6, .phase⟩, ⟨7, .phase⟩], aC⟩
def Rc: Oper := ⟨aC, .store 9 (.tmp 129) (.tmp 128), 0, "l8_draw.go:208", #[⟨8, .data⟩, ⟨7, .data⟩, ⟨7, .chain⟩, ⟨0, .phase⟩, ⟨1, .phase⟩, ⟨2, .phase⟩, ⟨3, .phase⟩, ⟨4, .phase⟩, ⟨5, .phase⟩, ⟨6, .phase⟩, ⟨7, .phase⟩], aC⟩
def Agb:List Oper:=[QT,QU,QV,QW,QX,QY,QZ,Ra,Rb,Rc]
def Re: Oper := ⟨aB 136, .fieldAddr 46 (.tmp 7) 2, 0, "l8_draw.go:212", #[], aC⟩
def Rf: Oper := ⟨aB 137, .load 44 (.tmp 136), 44, "l8_draw.go:212", #[⟨0, .data⟩], aC⟩
def Rg: Oper := ⟨aB 138, .fieldAddr 46 (.tmp 7) 2, 0, "l8_draw.go:212", #[], aC⟩
def Rh: Oper := ⟨aB 139, .load 44 (.tmp 138), 44, "l8_draw.go:212", #[⟨2, .data⟩], aC⟩
def Ri: Oper := ⟨aB 140, .move (.tmp 8), 3, "l8_draw.go:212", #[], aC⟩
def Rj: Oper := ⟨aB 141, .indexAddr 44 (.tmp 139) (.tmp 140), 0, "l8_draw.go:212", #[⟨3, .data⟩, ⟨4, .data⟩], aC⟩
def Rk: Oper := ⟨aB 142, .load 115 (.tmp 141), 115, "l8_draw.go:212", #[⟨5, .data⟩], aC⟩
def Rl: Oper := ⟨aB 143, .buildSlice 44 1 #[(0, .tmp 142)], 44, "l8_draw.go:212", #[⟨6, .data⟩], aC⟩
def Aa5: Oper := ⟨aB 144, .call { callee := .builtin .append, args := #[.tmp 137, .tmp 143], argTypes := #[44, 44] }, 44, "l8_draw.go:212", #[⟨1, .data⟩, ⟨7, .data⟩], aC⟩
def Rm: Oper := ⟨aB 145, .fieldAddr 46 (.tmp 7) 2, 0, "l8_draw.go:212", #[⟨0, .phase⟩, ⟨1, .phase⟩, ⟨2, .phase⟩, ⟨3, .phase⟩, ⟨4, .phase⟩, ⟨5, .phase⟩, ⟨6, .phase⟩, ⟨7, .phase⟩, ⟨8, .phase⟩], aC⟩
def LU: Oper := ⟨aC, .store 44 (.tmp 145) (.tmp 144), 0, "l8_draw.go:212", #[⟨9, .data⟩, ⟨8, .data⟩, ⟨8, .chain⟩, ⟨0, .phase⟩, ⟨1, .phase⟩, ⟨2, .phase⟩, ⟨3, .phase⟩, ⟨4, .phase⟩, ⟨5, .phase⟩, ⟨6, .phase⟩, ⟨7, .phase⟩, ⟨8, .phase⟩], aC⟩
def Agc:List Oper:=[Re,Rf,Rg,Rh,Ri,Rj,Rk,Rl,Aa5,Rm,LU]
def Rn: Oper := ⟨aB 156, .fieldAddr 46 (.tmp 7) 2, 0, "l8_draw.go:217", #[], aC⟩
def Ro: Oper := ⟨aB 157, .load 44 (.tmp 156), 44, "l8_draw.go:217", #[⟨0, .data⟩], aC⟩
def Rp: Oper := ⟨aB 158, .fieldAddr 46 (.tmp 7) 2, 0, "l8_draw.go:217", #[], aC⟩
def Rq: Oper := ⟨aB 159, .load 44 (.tmp 158), 44, "l8_draw.go:217", #[⟨2, .data⟩], aC⟩
def Rr: Oper := ⟨aB 160, .indexAddr 44 (.tmp 159) (.const (.int .i64 1)), 0, "l8_draw.go:217", #[⟨3, .data⟩], aC⟩
def Rs: Oper := ⟨aB 161, .load 115 (.tmp 160), 115, "l8_draw.go:217", #[⟨4, .data⟩], aC⟩
def Rt: Oper := ⟨aB 162, .indexAddr 44 (.tmp 157) (.const (.int .i64 0)), 0, "l8_draw.go:217", #[⟨1, .data⟩, ⟨0, .phase⟩, ⟨1, .phase⟩, ⟨2, .phase⟩, ⟨3, .phase⟩, ⟨4, .phase⟩, ⟨5, .phase⟩], aC⟩
def Ru: Oper := ⟨aC, .store 115 (.tmp 162) (.tmp 161), 0, "l8_draw.go:217", #[⟨6, .data⟩, ⟨5, .data⟩, ⟨0, .phase⟩, ⟨1, .phase⟩, ⟨2, .phase⟩, ⟨3, .phase⟩, ⟨4, .phase⟩, ⟨5, .phase⟩], aC⟩
def Agd:List Oper:=[Rn,Ro,Rp,Rq,Rr,Rs,Rt,Ru]
def Xe: Oper := ⟨aB 39, .fieldAddr 25 (.tmp 5) 0, 0, "l8_draw.go:227", #[], aC⟩
def Xf: Oper := ⟨aB 40, .load 23 (.tmp 39), 23, "l8_draw.go:227", #[⟨0, .data⟩], aC⟩
def Aa6: Oper := ⟨aB 41, .call { callee := .builtin .len, args := #[.tmp 40], argTypes := #[23] }, 3, "l8_draw.go:227", #[⟨1, .data⟩], aC⟩
def Xg: Oper := ⟨aB 42, .move (.tmp 0), 65, "l8_draw.go:227", #[], aC⟩
def Xh: Oper := ⟨aB 43, .call { callee := .value (.func 44), args := #[.tmp 42, .const (.int .i64 2)], argTypes := #[65, 3] }, 3, "l8_draw.go:227", #[⟨3, .data⟩], aC⟩
def Aa7: Oper := ⟨aB 44, .binOp .add 3 (.const (.int .i64 60)) (.tmp 43) 3, 3, "l8_draw.go:227", #[⟨4, .data⟩], aC⟩
def Aa8: Oper := ⟨aB 45, .binOp .lss 3 (.tmp 41) (.tmp 44) 3, 4, "l8_draw.go:227", #[⟨2, .data⟩, ⟨5, .data⟩], aC⟩
def Ag7:List Oper:=[Xe,Xf,Aa6,Xg,Xh,Aa7,Aa8]
theorem TU.get0{L:Nat->Bool}(h:TU J m kk d L W)(a:L m=false):∃k',k'<=kk/\J k' W:=by
 obtain⟨k',b,h⟩:=h;exact⟨k',by simpa [a] using b,h⟩
theorem TU.put{k' a:Nat}{L:Nat->Bool}(b:k'<=kk)(c:a<=k'+d)(h:J a W):TU J m kk d (CF L m) W:=⟨a,by simp[CF];omega,h⟩
def P6(B p c X Y:Nat)(w1:World)(D T:List BAt)(y:BAt)(g n cap:Nat)(bk bn:ByteArray)(kk:Nat)(W:World):Prop:=FD B p c X Y w1 D T y g n cap kk bk bn y.v y.ls W/\Aq c W (aA (aB ⟨g,0,aC⟩) n cap) (D++y::T)
theorem P6.V{cap:Nat}(h:P6 B p c X Y w1 D T y g n cap bk bn kk W)(a:Below W.heap.size W W'):P6 B p c X Y w1 D T y g n cap bk bn kk W':=⟨h.1.V a,h.2.V a⟩
theorem P6.grown{cap:Nat}(h:P6 B p c X Y w1 D T y g n cap bk bn kk W)(a:W.grownBy W' (aB p))(b:Rd B W' p kk'):P6 B p c X Y w1 D T y g n cap bk bn kk' W':=⟨h.1.grown a b,Az.other h.2 a h.1.plt⟩
theorem Xi{cap:Nat}(h:P6 B p c X Y w1 D T y g n cap bk bn kk W):W.cell? ⟨Y,2,aC⟩=aB y.v:=by
 have:=Ab h.1.yb 2;simpa using this
theorem Adn{l:Nat}{cap:Nat}(h:P6 B p c X Y w1 D T ⟨yk,yn,aA (aB ⟨l,0,aC⟩) nl yc,ls⟩ g n cap bk bn kk W)(a:ls.length=nl)(j:Nat):W.frozen? ⟨l,j,aC⟩=false:=(h.2.bm.ac.size a).frozenAt j
theorem Rv{l:Nat}{A:List LAt}{x:LAt}{cap:Nat}(J:P6 B p c X Y w1 D T ⟨yk,yn,aA (aB ⟨l,0,aC⟩) nl yc,A++x::E⟩ g n cap bk bn kk W)(ap:kk<=900000)(C:A.length=nI)(F:(A++x::E).length=nl)(M:a.eval (.tmp 0)=aD (aB ⟨p,0,aC⟩))(N:a.eval (.tmp 7)=aD (aB ⟨Y,0,aC⟩))(O:a.eval (.tmp 8)=.int .i64 (nI:Int))(aq:a.tmps.size=199)
  (P:∀v u k' W' a',a'=Ai a [95,96,97,98,99,100,101,102,103,104] v->k'<=kk+1->FD B p c X Y w1 D T ⟨yk,yn,aA (aB ⟨l,0,aC⟩) nl yc,A++x::E⟩ g n cap k' bk bn (aA (aB ⟨l,0,aC⟩) nl yc) (A++{ x with key:=u }::E) W'->Q .normal a' W'):(bF 20 Aga.toArray true).wp prog Q a W:=by
 have k:([95,96,97,98,99,100,101,102,103,104]:List Nat).Nodup:=by decide
 have ar:nI<nl:=by rw[<-F,<-C];simp
 have i3:(0:Int)<=(nI:Int):=by omega
 have i4:(nI:Int)<(nl:Int):=by omega
 refine Be [95,96,97,98,99,100,101,102,103,104] (Ir p Y l nI (aA (aB ⟨l,0,aC⟩) nl yc)) (TU (P6 B p c X Y w1 D T ⟨yk,yn,aA (aB ⟨l,0,aC⟩) nl yc,A++x::E⟩ g n cap bk bn) 5 kk 1) 10 11 [0,1,2,3,4,5,6,7,8,9,10] (by kernel_rfl) rfl (by decide) (by kernel_rfl) ?h1 ⟨_,aM _,J.V (aQ _ _).drew⟩ ?hall;case h1 =>
  intro i x W au;unfold Ir;split <;> first | omega | trivial
 refine Ag.ad (o:=QK) [] (by kernel_rfl) (by decide) (by kernel_rfl) rfl ?o0 (Ag.ad (o:=QL) [0] (by kernel_rfl) (by decide) (by kernel_rfl) rfl ?o1 (Ag.ad (o:=QM) [] (by kernel_rfl) (by decide) (by kernel_rfl) rfl ?o2 (Ag.ad (o:=VI) [] (by kernel_rfl) (by decide) (by kernel_rfl) rfl ?o3 (Ag.ad (o:=QN) [] (by kernel_rfl) (by decide) (by kernel_rfl) rfl ?o4 (Ag.ad (o:=QO) [4] (by kernel_rfl) (by decide) (by kernel_rfl) rfl ?o5 (Ag.ad (o:=QP) [3,5] (by kernel_rfl) (by decide) (by kernel_rfl) rfl ?o6 (Ag.ad (o:=QQ) [6] (by kernel_rfl) (by decide) (by kernel_rfl) rfl ?o7 (Ag.ad (o:=QR) [1,2,0,1,2,3,4,5,6,7] (by kernel_rfl) (by decide) (by kernel_rfl) rfl ?o8 (Ag.ad (o:=QS) [8,0,1,2,3,4,5,6,7] (by kernel_rfl) (by decide) (by kernel_rfl) rfl ?o9 (Ag.lastQ (o:=LS) [9,7,5,0,1,2,3,4,5,6,7] (by kernel_rfl) (by kernel_rfl) rfl ?o10))))))))));case o0 =>
  rintro s L _ W q m ⟨v,rfl,d,f⟩ K j;have R:=(A1 (v:=v) (show 7 ∉ ([95,96,97,98,99,100,101,102,103,104]:List Nat) by decide)).trans N;have b : execOp (Ai a [95, 96, 97, 98, 99, 100, 101, 102, 103, 104] v).eval QK = execOp (aG ⟨#[undef], []⟩) ⟨aB 0, .fieldAddr 46 (.const (aD (aB ⟨Y, 0, aC⟩))) 2, 0, "", #[], aC⟩ := by simp only[execOp, Ac, QK, R]
  refine Br.mk ?_;unfold aI;rw[b];clear b;go_simp;exact j.out _ _ (A7.next d 0 (aD (aB ⟨Y,2,aC⟩)) (Ao 0 k rfl) (Ir.af (BV.refl _ _)) rfl (f.af (by decide) fun _ h=>h))
 case o1 =>
  rintro s L _ W q m ⟨v,rfl,d,f⟩ K j;obtain⟨k',w,r⟩:=f.get;have av:=Xi r;have S:(Ai a [95,96,97,98,99,100,101,102,103,104] v).eval (.tmp 95)=_:=(Aj 0 k rfl (by omega)).trans (d 0 (m 0 (by simp)));have b : execOp (Ai a [95, 96, 97, 98, 99, 100, 101, 102, 103, 104] v).eval QL = execOp (aG ⟨#[undef], []⟩) ⟨aB 0, .load 44 (.const (aD (aB ⟨Y, 2, aC⟩))), 0, "", #[], aC⟩ := by simp only[execOp, Ac, QL, S]
  refine Br.mk ?_;unfold aI;rw[b];clear b;go_simp;exact j.out _ _ (A7.next d 1 (aA (aB ⟨l,0,aC⟩) nl yc) (Ao 1 k rfl) (Ir.af (BV.refl _ _)) rfl (f.af (by decide) fun _ h=>h))
 case o2 =>
  rintro s L _ W q m ⟨v,rfl,d,f⟩ K j;have U:=(A1 (v:=v) (show 8 ∉ ([95,96,97,98,99,100,101,102,103,104]:List Nat) by decide)).trans O;have b : execOp (Ai a [95, 96, 97, 98, 99, 100, 101, 102, 103, 104] v).eval QM = execOp (aG ⟨#[undef], []⟩) ⟨aB 0, .move (.const (.int .i64 (nI : Int))), 0, "", #[], aC⟩ := by simp only[execOp, Ac, QM, U]
  refine Br.mk ?_;unfold aI;rw[b];clear b;go_simp;exact j.out _ _ (A7.next d 2 (.int .i64 (nI:Int)) (Ao 2 k rfl) (Ir.af (BV.refl _ _)) rfl (f.af (by decide) fun _ h=>h))
 case o3 =>
  rintro s L _ W q m ⟨v,rfl,d,f⟩ K j;obtain⟨k',w,r⟩:=f.get;have b : execOp (Ai a [95, 96, 97, 98, 99, 100, 101, 102, 103, 104] v).eval VI = execOp (aG ⟨#[undef], []⟩) ⟨aB 0, .buildSlice 52 3 #[(0, .const (.string ⟨#[]⟩)), (1, .const (.string ⟨#[105, 109, 97, 103, 101]⟩)), (2, .const (.string ⟨#[122, 111, 110, 101]⟩))], 0, "", #[], aC⟩ := by kernel_rfl
  refine Br.mk ?_;unfold aI;rw[b];clear b;go_simp;exact j.out _ _ (A7.next d 3 (aA (aB ⟨W.heap.size,0,aC⟩) 3 3) (Ao 3 k rfl) (Ir.af (BV.alloc _ _ _)) ⟨_,rfl,Al _ _,r.1.rd.lt⟩ (f.af (by decide) fun _ h=>h.V ((aQ _ _).alloc (aM _) _)))
 case o4 =>
  rintro s L _ W q m ⟨v,rfl,d,f⟩ K j;have V:=(A1 (v:=v) (show 0 ∉ ([95,96,97,98,99,100,101,102,103,104]:List Nat) by decide)).trans M;have b : execOp (Ai a [95, 96, 97, 98, 99, 100, 101, 102, 103, 104] v).eval QN = execOp (aG ⟨#[undef], []⟩) ⟨aB 0, .move (.const (aD (aB ⟨p, 0, aC⟩))), 0, "", #[], aC⟩ := by simp only[execOp, Ac, QN, V]
  refine Br.mk ?_;unfold aI;rw[b];clear b;go_simp;exact j.out _ _ (A7.next d 4 (aD (aB ⟨p,0,aC⟩)) (Ao 4 k rfl) (Ir.af (BV.refl _ _)) rfl (f.af (by decide) fun _ h=>h))
 case o5 =>
  rintro s L _ W q m ⟨v,rfl,d,f⟩ K j;have Z:(Ai a [95,96,97,98,99,100,101,102,103,104] v).eval (.tmp 99)=_:=(Aj 4 k rfl (by omega)).trans (d 4 (m 4 (by simp)));obtain⟨k',w,r⟩:=f.get0 q;have aa:=Bc B p k' 3 W r.1.rd (by omega) (by omega) (by omega);have b : execOp (Ai a [95, 96, 97, 98, 99, 100, 101, 102, 103, 104] v).eval QO = execOp (aG ⟨#[undef], []⟩) ⟨aB 0, .call { callee := .value (.func 44), args := #[.const (aD (aB ⟨p, 0, aC⟩)), .const (.int .i64 3)], argTypes := #[65, 3] }, 0, "", #[], aC⟩ := by simp only[execOp, Ac, BQ, QO, resolve, aT, aU, aX, Z]
  refine Br.mk ?_;unfold aI;rw[b];clear b;go_simp;refine aa.mono ?_;rintro e W' ⟨y,z,rfl,ab,H⟩;exact j.out _ _ (A7.next d 5 (.int .i64 (y:Int)) (Ao 5 k rfl) (Ir.af (BV.grown H)) ⟨y,z,rfl⟩ (TU.put w (aM _) (r.grown H ab)))
 case o6 =>
  rintro s L _ W q m ⟨v,rfl,d,f⟩ K j;obtain⟨t,ac,G⟩:=d 3 (m 3 (by simp));obtain⟨y,z,ad⟩:=d 5 (m 5 (by simp));have ae:(Ai a [95,96,97,98,99,100,101,102,103,104] v).eval (.tmp 98)=_:=(Aj 3 k rfl (by omega)).trans ac;have af:(Ai a [95,96,97,98,99,100,101,102,103,104] v).eval (.tmp 100)=_:=(Aj 5 k rfl (by omega)).trans ad;have aw:(0:Int)<=(y:Int):=by omega
  have ax:(y:Int)<3:=by omega
  have b : execOp (Ai a [95, 96, 97, 98, 99, 100, 101, 102, 103, 104] v).eval QP = execOp (aG ⟨#[undef], []⟩) ⟨aB 0, .indexAddr 52 (.const (aA (aB ⟨t, 0, aC⟩) 3 3)) (.const (.int .i64 (y : Int))), 0, "", #[], aC⟩ := by simp only[execOp, Ac, QP, ae, af]
  refine Br.mk ?_;unfold aI;rw[b];clear b;go_simp;exact j.out _ _ (A7.next d 6 (aD (aB ⟨t,y,aC⟩)) (Ao 6 k rfl) (Ir.af (BV.refl _ _)) ⟨t,y,z,rfl,G⟩ (f.af (by decide) fun _ h=>h))
 case o7 =>
  rintro s L _ W q m ⟨v,rfl,d,f⟩ K j;obtain⟨t,y,z,ag,G⟩:=d 6 (m 6 (by simp));obtain⟨u,ay,az⟩:=G.cell (show y<Aa3.length from z);have ah:(Ai a [95,96,97,98,99,100,101,102,103,104] v).eval (.tmp 101)=_:=(Aj 6 k rfl (by omega)).trans ag;have b : execOp (Ai a [95, 96, 97, 98, 99, 100, 101, 102, 103, 104] v).eval QQ = execOp (aG ⟨#[undef], []⟩) ⟨aB 0, .load 9 (.const (aD (aB ⟨t, y, aC⟩))), 0, "", #[], aC⟩ := by simp only[execOp, Ac, QQ, ah]
  refine Br.mk ?_;unfold aI;rw[b];clear b;go_simp;exact j.out _ _ (A7.next d 7 (.string u) (Ao 7 k rfl) (Ir.af (BV.refl _ _)) ⟨u,rfl⟩ (f.af (by decide) fun _ h=>h))
 case o8 =>
  rintro s L _ W q m ⟨v,rfl,d,f⟩ K j;have ai:(Ai a [95,96,97,98,99,100,101,102,103,104] v).eval (.tmp 96)=_:=(Aj 1 k rfl (by omega)).trans (d 1 (m 1 (by simp)));have aj:(Ai a [95,96,97,98,99,100,101,102,103,104] v).eval (.tmp 97)=_:=(Aj 2 k rfl (by omega)).trans (d 2 (m 2 (by simp)));have b : execOp (Ai a [95, 96, 97, 98, 99, 100, 101, 102, 103, 104] v).eval QR = execOp (aG ⟨#[undef], []⟩) ⟨aB 0, .indexAddr 44 (.const (aA (aB ⟨l, 0, aC⟩) nl yc)) (.const (.int .i64 (nI : Int))), 0, "", #[], aC⟩ := by simp only[execOp, Ac, QR, ai, aj]
  refine Br.mk ?_;unfold aI;rw[b];clear b;go_simp;exact j.out _ _ (A7.next d 8 (aD (aB ⟨l,nI*2,aC⟩)) (Ao 8 k rfl) (Ir.af (BV.refl _ _)) rfl (f.af (by decide) fun _ h=>h))
 case o9 =>
  rintro s L _ W q m ⟨v,rfl,d,f⟩ K j;have ak:(Ai a [95,96,97,98,99,100,101,102,103,104] v).eval (.tmp 103)=_:=(Aj 8 k rfl (by omega)).trans (d 8 (m 8 (by simp)));have b : execOp (Ai a [95, 96, 97, 98, 99, 100, 101, 102, 103, 104] v).eval QS = execOp (aG ⟨#[undef], []⟩) ⟨aB 0, .fieldAddr 115 (.const (aD (aB ⟨l, nI*2, aC⟩))) 0, 0, "", #[], aC⟩ := by simp only[execOp, Ac, QS, ak]
  refine Br.mk ?_;unfold aI;rw[b];clear b;go_simp;exact j.out _ _ (A7.next d 9 (aD (aB ⟨l,nI*2,aC⟩)) (Ao 9 k rfl) (Ir.af (BV.refl _ _)) rfl (f.af (by decide) fun _ h=>h))
 case o10 =>
  rintro s L _ W q m ⟨v,rfl,d,f⟩ K j;obtain⟨u,al⟩:=d 7 (m 7 (by simp));have am:(Ai a [95,96,97,98,99,100,101,102,103,104] v).eval (.tmp 104)=_:=(Aj 9 k rfl (by omega)).trans (d 9 (m 9 (by simp)));have an:(Ai a [95,96,97,98,99,100,101,102,103,104] v).eval (.tmp 102)=_:=(Aj 7 k rfl (by omega)).trans al;obtain⟨k',w,r⟩:=f.get;have ao:=r.2.bm.ac.cell 0 (by decide);simp only[LAt.cells,aE,bK,C]at ao;have a0:=Adn r F (nI*2);have I:=Aa (FD.key r.1 r.2 F u);rw[C]at I;have b : execOp (Ai a [95, 96, 97, 98, 99, 100, 101, 102, 103, 104] v).eval LS = execOp (aG ⟨#[undef], []⟩) ⟨aB 0, .store 9 (.const (aD (aB ⟨l, nI*2, aC⟩))) (.const (.string u)), 0, "", #[], aC⟩ := by simp only[execOp, Ac, LS, am, an]
  refine Br.mk ?_;unfold aI;rw[b];clear b;go_simp;exact j.out _ _ (aS (P v u k' _ _ rfl w I.out))
theorem Rw{l:Nat}{A:List LAt}{r:Nat}{s:List UInt8}{y:List (List UInt8)}{cap:Nat}(J:P6 B p c X Y w1 D T ⟨yk,yn,aA (aB ⟨l,0,aC⟩) nl yc,A++⟨xk,aA (aB ⟨r,0,aC⟩) nw wc,s::y⟩::E⟩ g n cap bk bn kk W)(ao:kk<=800000)(H:A.length=nI)(M:(A++⟨xk,aA (aB ⟨r,0,aC⟩) nw wc,s::y⟩::E).length=nl)(I:(s::y).length=nw)(N:a.eval (.tmp 0)=aD (aB ⟨p,0,aC⟩))(O:a.eval (.tmp 7)=aD (aB ⟨Y,0,aC⟩))(P:a.eval (.tmp 8)=.int .i64 (nI:Int))(ap:a.tmps.size=199)
  (R:∀v (t:ByteArray) k' W' a',a'=Ai a [121,122,123,124,125,126,127,128,129] v->k'<=kk+2->FD B p c X Y w1 D T ⟨yk,yn,aA (aB ⟨l,0,aC⟩) nl yc,A++⟨xk,aA (aB ⟨r,0,aC⟩) nw wc,s::y⟩::E⟩ g n cap k' bk bn (aA (aB ⟨l,0,aC⟩) nl yc) (A++⟨xk,aA (aB ⟨r,0,aC⟩) nw wc,t.data.toList::y⟩::E) W'->Q .normal a' W'):(bF 23 Agb.toArray true).wp prog Q a W:=by
 have k:([121,122,123,124,125,126,127,128,129]:List Nat).Nodup:=by decide
 have aq:nI<nl:=by rw[<-M,<-H];simp
 have i3:(0:Int)<=(nI:Int):=by omega
 have i4:(nI:Int)<(nl:Int):=by omega
 have i5:(0:Int)<(nw:Int):=by rw[<-I];simp
 have ar:0<nw:=by omega
 refine Be [121,122,123,124,125,126,127,128,129] (fun i x _=>Af8 p Y l nI r nw wc (aA (aB ⟨l,0,aC⟩) nl yc) i x) (TU (P6 B p c X Y w1 D T ⟨yk,yn,aA (aB ⟨l,0,aC⟩) nl yc,A++⟨xk,aA (aB ⟨r,0,aC⟩) nw wc,s::y⟩::E⟩ g n cap bk bn) 7 kk 2) 9 10 [0,1,2,3,4,5,6,7,8,9] (by kernel_rfl) rfl (by decide) (by kernel_rfl) ?h1 ⟨_,aM _,J.V (aQ _ _).drew⟩ ?hall;case h1 =>
  intro i x W au;unfold Af8;split <;> first | omega | trivial
 refine Ag.ad (o:=QT) [] (by kernel_rfl) (by decide) (by kernel_rfl) rfl ?o0 (Ag.ad (o:=QU) [0] (by kernel_rfl) (by decide) (by kernel_rfl) rfl ?o1 (Ag.ad (o:=QV) [] (by kernel_rfl) (by decide) (by kernel_rfl) rfl ?o2 (Ag.ad (o:=QW) [1,2] (by kernel_rfl) (by decide) (by kernel_rfl) rfl ?o3 (Ag.ad (o:=QX) [3] (by kernel_rfl) (by decide) (by kernel_rfl) rfl ?o4 (Ag.ad (o:=QY) [4] (by kernel_rfl) (by decide) (by kernel_rfl) rfl ?o5 (Ag.ad (o:=QZ) [] (by kernel_rfl) (by decide) (by kernel_rfl) rfl ?o6 (Ag.ad (o:=Ra) [6] (by kernel_rfl) (by decide) (by kernel_rfl) rfl ?o7 (Ag.ad (o:=Rb) [5,0,1,2,3,4,5,6,7] (by kernel_rfl) (by decide) (by kernel_rfl) rfl ?o8 (Ag.lastQ (o:=Rc) [8,7,7,0,1,2,3,4,5,6,7] (by kernel_rfl) (by kernel_rfl) rfl ?o9)))))))));case o0 =>
  rintro w L _ W q m ⟨v,rfl,d,f⟩ K j;have S:=(A1 (v:=v) (show 7 ∉ ([121,122,123,124,125,126,127,128,129]:List Nat) by decide)).trans O;have b : execOp (Ai a [121, 122, 123, 124, 125, 126, 127, 128, 129] v).eval QT = execOp (aG ⟨#[undef], []⟩) ⟨aB 0, .fieldAddr 46 (.const (aD (aB ⟨Y, 0, aC⟩))) 2, 0, "", #[], aC⟩ := by simp only[execOp, Ac, QT, S]
  refine Br.mk ?_;unfold aI;rw[b];clear b;go_simp;exact j.out _ _ (A7.next (W:=W) d 0 (aD (aB ⟨Y,2,aC⟩)) (Ao 0 k rfl) (fun _ _ h=>h) rfl (f.af (by decide) fun _ h=>h))
 case o1 =>
  rintro w L _ W q m ⟨v,rfl,d,f⟩ K j;obtain⟨k',z,u⟩:=f.get;have av:=Xi u;have U:(Ai a [121,122,123,124,125,126,127,128,129] v).eval (.tmp 121)=_:=(Aj 0 k rfl (by omega)).trans (d 0 (m 0 (by simp)));have b : execOp (Ai a [121, 122, 123, 124, 125, 126, 127, 128, 129] v).eval QU = execOp (aG ⟨#[undef], []⟩) ⟨aB 0, .load 44 (.const (aD (aB ⟨Y, 2, aC⟩))), 0, "", #[], aC⟩ := by simp only[execOp, Ac, QU, U]
  refine Br.mk ?_;unfold aI;rw[b];clear b;go_simp;exact j.out _ _ (A7.next (W:=W) d 1 (aA (aB ⟨l,0,aC⟩) nl yc) (Ao 1 k rfl) (fun _ _ h=>h) rfl (f.af (by decide) fun _ h=>h))
 case o2 =>
  rintro w L _ W q m ⟨v,rfl,d,f⟩ K j;have V:=(A1 (v:=v) (show 8 ∉ ([121,122,123,124,125,126,127,128,129]:List Nat) by decide)).trans P;have b : execOp (Ai a [121, 122, 123, 124, 125, 126, 127, 128, 129] v).eval QV = execOp (aG ⟨#[undef], []⟩) ⟨aB 0, .move (.const (.int .i64 (nI : Int))), 0, "", #[], aC⟩ := by simp only[execOp, Ac, QV, V]
  refine Br.mk ?_;unfold aI;rw[b];clear b;go_simp;exact j.out _ _ (A7.next (W:=W) d 2 (.int .i64 (nI:Int)) (Ao 2 k rfl) (fun _ _ h=>h) rfl (f.af (by decide) fun _ h=>h))
 case o3 =>
  rintro w L _ W q m ⟨v,rfl,d,f⟩ K j;have Z:(Ai a [121,122,123,124,125,126,127,128,129] v).eval (.tmp 122)=_:=(Aj 1 k rfl (by omega)).trans (d 1 (m 1 (by simp)));have aa:(Ai a [121,122,123,124,125,126,127,128,129] v).eval (.tmp 123)=_:=(Aj 2 k rfl (by omega)).trans (d 2 (m 2 (by simp)));have b : execOp (Ai a [121, 122, 123, 124, 125, 126, 127, 128, 129] v).eval QW = execOp (aG ⟨#[undef], []⟩) ⟨aB 0, .indexAddr 44 (.const (aA (aB ⟨l, 0, aC⟩) nl yc)) (.const (.int .i64 (nI : Int))), 0, "", #[], aC⟩ := by simp only[execOp, Ac, QW, Z, aa]
  refine Br.mk ?_;unfold aI;rw[b];clear b;go_simp;exact j.out _ _ (A7.next (W:=W) d 3 (aD (aB ⟨l,nI*2,aC⟩)) (Ao 3 k rfl) (fun _ _ h=>h) rfl (f.af (by decide) fun _ h=>h))
 case o4 =>
  rintro w L _ W q m ⟨v,rfl,d,f⟩ K j;have ab:(Ai a [121,122,123,124,125,126,127,128,129] v).eval (.tmp 124)=_:=(Aj 3 k rfl (by omega)).trans (d 3 (m 3 (by simp)));have b : execOp (Ai a [121, 122, 123, 124, 125, 126, 127, 128, 129] v).eval QX = execOp (aG ⟨#[undef], []⟩) ⟨aB 0, .fieldAddr 115 (.const (aD (aB ⟨l, nI*2, aC⟩))) 1, 0, "", #[], aC⟩ := by simp only[execOp, Ac, QX, ab]
  refine Br.mk ?_;unfold aI;rw[b];clear b;go_simp;exact j.out _ _ (A7.next (W:=W) d 4 (aD (aB ⟨l,nI*2+1,aC⟩)) (Ao 4 k rfl) (fun _ _ h=>h) rfl (f.af (by decide) fun _ h=>h))
 case o5 =>
  rintro w L _ W q m ⟨v,rfl,d,f⟩ K j;obtain⟨k',z,u⟩:=f.get;have C:=u.2.bm.ac.cell 1 (by decide);simp only[LAt.cells,aE,aH,H]at C;have ac:(Ai a [121,122,123,124,125,126,127,128,129] v).eval (.tmp 125)=_:=(Aj 4 k rfl (by omega)).trans (d 4 (m 4 (by simp)));have b : execOp (Ai a [121, 122, 123, 124, 125, 126, 127, 128, 129] v).eval QY = execOp (aG ⟨#[undef], []⟩) ⟨aB 0, .load 52 (.const (aD (aB ⟨l, nI*2 + 1, aC⟩))), 0, "", #[], aC⟩ := by simp only[execOp, Ac, QY, ac]
  refine Br.mk ?_;unfold aI;rw[b];clear b;go_simp;exact j.out _ _ (A7.next (W:=W) d 5 (aA (aB ⟨r,0,aC⟩) nw wc) (Ao 5 k rfl) (fun _ _ h=>h) rfl (f.af (by decide) fun _ h=>h))
 case o6 =>
  rintro w L _ W q m ⟨v,rfl,d,f⟩ K j;have ad:=(A1 (v:=v) (show 0 ∉ ([121,122,123,124,125,126,127,128,129]:List Nat) by decide)).trans N;have b : execOp (Ai a [121, 122, 123, 124, 125, 126, 127, 128, 129] v).eval QZ = execOp (aG ⟨#[undef], []⟩) ⟨aB 0, .move (.const (aD (aB ⟨p, 0, aC⟩))), 0, "", #[], aC⟩ := by simp only[execOp, Ac, QZ, ad]
  refine Br.mk ?_;unfold aI;rw[b];clear b;go_simp;exact j.out _ _ (A7.next (W:=W) d 6 (aD (aB ⟨p,0,aC⟩)) (Ao 6 k rfl) (fun _ _ h=>h) rfl (f.af (by decide) fun _ h=>h))
 case o7 =>
  rintro w L _ W q m ⟨v,rfl,d,f⟩ K j;have ae:(Ai a [121,122,123,124,125,126,127,128,129] v).eval (.tmp 127)=_:=(Aj 6 k rfl (by omega)).trans (d 6 (m 6 (by simp)));obtain⟨k',z,u⟩:=f.get0 q;have af:=P4 B p k' W u.1.rd (by omega);have b : execOp (Ai a [121, 122, 123, 124, 125, 126, 127, 128, 129] v).eval Ra = execOp (aG ⟨#[undef], []⟩) ⟨aB 0, .call { callee := .value (.func 164), args := #[.const (aD (aB ⟨p, 0, aC⟩))], argTypes := #[65] }, 0, "", #[], aC⟩ := by simp only[execOp, Ac, BQ, Ra, resolve, aT, aU, aX, ae]
  refine Br.mk ?_;unfold aI;rw[b];clear b;go_simp;refine af.mono ?_;rintro e W' ⟨t,aw,F,ag,rfl,ah,ai⟩;exact j.out _ _ (A7.next (W:=W) d 7 (.string t) (Ao 7 k rfl) (fun _ _ h=>h) ⟨t,F,rfl⟩ (TU.put z ag (u.grown ai ah)))
 case o8 =>
  rintro w L _ W q m ⟨v,rfl,d,f⟩ K j;have aj:(Ai a [121,122,123,124,125,126,127,128,129] v).eval (.tmp 126)=_:=(Aj 5 k rfl (by omega)).trans (d 5 (m 5 (by simp)));have b : execOp (Ai a [121, 122, 123, 124, 125, 126, 127, 128, 129] v).eval Rb = execOp (aG ⟨#[undef], []⟩) ⟨aB 0, .indexAddr 52 (.const (aA (aB ⟨r, 0, aC⟩) nw wc)) (.const (.int .i64 0)), 0, "", #[], aC⟩ := by simp only[execOp, Ac, Rb, aj]
  refine Br.mk ?_;unfold aI;rw[b];clear b;go_simp;exact j.out _ _ (A7.next (W:=W) d 8 (aD (aB ⟨r,0,aC⟩)) (Ao 8 k rfl) (fun _ _ h=>h) rfl (f.af (by decide) fun _ h=>h))
 case o9 =>
  rintro w L _ W q m ⟨v,rfl,d,f⟩ K j;obtain⟨t,F,ak⟩:=d 7 (m 7 (by simp));have al:(Ai a [121,122,123,124,125,126,127,128,129] v).eval (.tmp 129)=_:=(Aj 8 k rfl (by omega)).trans (d 8 (m 8 (by simp)));have am:(Ai a [121,122,123,124,125,126,127,128,129] v).eval (.tmp 128)=_:=(Aj 7 k rfl (by omega)).trans ak;obtain⟨k',z,u⟩:=f.get;have G:=u.2.bm.ac.words;simp only[I]at G;have C:=G.cellAt 0 (by have:=i5;omega);simp only[strs,aU,aE]at C;have ax:=G.frozenAt 0;have an:=Aa (FD.word u.1 u.2 t F);have b : execOp (Ai a [121, 122, 123, 124, 125, 126, 127, 128, 129] v).eval Rc = execOp (aG ⟨#[undef], []⟩) ⟨aB 0, .store 9 (.const (aD (aB ⟨r, 0, aC⟩))) (.const (.string t)), 0, "", #[], aC⟩ := by simp only[execOp, Ac, Rc, al, am]
  refine Br.mk ?_;unfold aI;rw[b];clear b;go_simp;exact j.out _ _ (aS (R v t k' _ _ rfl z an.out))
variable {W0:World}{n1:Nat}
def Age(Y l:Nat)(lv v1:Value)(i:Nat)(x:Value):Prop:=match i with
 | 0=>x=aD (aB ⟨Y,2,aC⟩)
 | 1=>x=lv
 | 2=>x=aD (aB ⟨Y,2,aC⟩)
 | 3=>x=lv
 | 4=>x=aD (aB ⟨l,2,aC⟩)
 | 5=>x=v1
 | 6=>x=aD (aB ⟨l,0,aC⟩)
 | _=>True
theorem Rx{l:Nat}{x0:LAt}{q:ByteArray}{a1:Option Addr}{r:Nat}{u1:List (List UInt8)}{cap:Nat}(A:P6 B p c X Y w1 D T ⟨yk,yn,aA (aB ⟨l,0,aC⟩) nl yc,x0::⟨q,aA a1 n1 r,u1⟩::E⟩ g n cap bk bn kk W0)(w:(x0::⟨q,aA a1 n1 r,u1⟩::E).length=nl)(z:a.eval (.tmp 7)=aD (aB ⟨Y,0,aC⟩))(Z:a.tmps.size=199)
  (C:∀v W' a',a'=Ai a [156,157,158,159,160,161,162] v->P6 B p c X Y w1 D T ⟨yk,yn,aA (aB ⟨l,0,aC⟩) nl yc,x0::⟨q,aA a1 n1 r,u1⟩::E⟩ g n cap bk bn kk W'->Below W0.heap.size W0 W'->Q .normal a' (W'.setCells l 0 [.string q,aA a1 n1 r])):(bF 30 Agd.toArray true).wp prog Q a W0:=by
 have k:([156,157,158,159,160,161,162]:List Nat).Nodup:=by decide
 have aa:2<=nl:=by rw[<-w];simp
 have i4:(1:Int)<(nl:Int):=by omega
 have i5:(0:Int)<(nl:Int):=by omega
 have ab:1<nl:=by omega
 have ac:0<nl:=by omega
 refine Be [156,157,158,159,160,161,162] (fun i x _=>Age Y l (aA (aB ⟨l,0,aC⟩) nl yc) (bE #[.string q,aA a1 n1 r]) i x) (fun _ W=>P6 B p c X Y w1 D T ⟨yk,yn,aA (aB ⟨l,0,aC⟩) nl yc,x0::⟨q,aA a1 n1 r,u1⟩::E⟩ g n cap bk bn kk W/\Below W0.heap.size W0 W) 7 8 [0,1,2,3,4,5,6,7] (by kernel_rfl) rfl (by decide) (by kernel_rfl) ?h1 ⟨A.V (aQ _ _).drew,(aQ _ _).drew⟩ ?hall;case h1 =>
  intro i x W ad;unfold Age;split <;> first | omega | trivial
 refine Ag.ad (o:=Rn) [] (by kernel_rfl) (by decide) (by kernel_rfl) rfl ?o0 (Ag.ad (o:=Ro) [0] (by kernel_rfl) (by decide) (by kernel_rfl) rfl ?o1 (Ag.ad (o:=Rp) [] (by kernel_rfl) (by decide) (by kernel_rfl) rfl ?o2 (Ag.ad (o:=Rq) [2] (by kernel_rfl) (by decide) (by kernel_rfl) rfl ?o3 (Ag.ad (o:=Rr) [3] (by kernel_rfl) (by decide) (by kernel_rfl) rfl ?o4 (Ag.ad (o:=Rs) [4] (by kernel_rfl) (by decide) (by kernel_rfl) rfl ?o5 (Ag.ad (o:=Rt) [1,0,1,2,3,4,5] (by kernel_rfl) (by decide) (by kernel_rfl) rfl ?o6 (Ag.lastQ (o:=Ru) [6,5,0,1,2,3,4,5] (by kernel_rfl) (by kernel_rfl) rfl ?o7)))))));case o0 =>
  rintro s L _ W t m ⟨v,rfl,d,e,f⟩ K j;have y:=(A1 (v:=v) (show 7 ∉ ([156,157,158,159,160,161,162]:List Nat) by decide)).trans z;have b : execOp (Ai a [156, 157, 158, 159, 160, 161, 162] v).eval Rn = execOp (aG ⟨#[undef], []⟩) ⟨aB 0, .fieldAddr 46 (.const (aD (aB ⟨Y, 0, aC⟩))) 2, 0, "", #[], aC⟩ := by simp only[execOp, Ac, Rn, y]
  refine Br.mk ?_;unfold aI;rw[b];clear b;go_simp;exact j.out _ _ (A7.next (W:=W) d 0 (aD (aB ⟨Y,2,aC⟩)) (Ao 0 k rfl) (fun _ _ h=>h) rfl ⟨e,f⟩)
 case o1 =>
  rintro s L _ W t m ⟨v,rfl,d,e,f⟩ K j;have F:=Xi e;have G:(Ai a [156,157,158,159,160,161,162] v).eval (.tmp 156)=_:=(Aj 0 k rfl (by omega)).trans (d 0 (m 0 (by simp)));have b : execOp (Ai a [156, 157, 158, 159, 160, 161, 162] v).eval Ro = execOp (aG ⟨#[undef], []⟩) ⟨aB 0, .load 44 (.const (aD (aB ⟨Y, 2, aC⟩))), 0, "", #[], aC⟩ := by simp only[execOp, Ac, Ro, G]
  refine Br.mk ?_;unfold aI;rw[b];clear b;go_simp;exact j.out _ _ (A7.next (W:=W) d 1 (aA (aB ⟨l,0,aC⟩) nl yc) (Ao 1 k rfl) (fun _ _ h=>h) rfl ⟨e,f⟩)
 case o2 =>
  rintro s L _ W t m ⟨v,rfl,d,e,f⟩ K j;have y:=(A1 (v:=v) (show 7 ∉ ([156,157,158,159,160,161,162]:List Nat) by decide)).trans z;have b : execOp (Ai a [156, 157, 158, 159, 160, 161, 162] v).eval Rp = execOp (aG ⟨#[undef], []⟩) ⟨aB 0, .fieldAddr 46 (.const (aD (aB ⟨Y, 0, aC⟩))) 2, 0, "", #[], aC⟩ := by simp only[execOp, Ac, Rp, y]
  refine Br.mk ?_;unfold aI;rw[b];clear b;go_simp;exact j.out _ _ (A7.next (W:=W) d 2 (aD (aB ⟨Y,2,aC⟩)) (Ao 2 k rfl) (fun _ _ h=>h) rfl ⟨e,f⟩)
 case o3 =>
  rintro s L _ W t m ⟨v,rfl,d,e,f⟩ K j;have F:=Xi e;have H:(Ai a [156,157,158,159,160,161,162] v).eval (.tmp 158)=_:=(Aj 2 k rfl (by omega)).trans (d 2 (m 2 (by simp)));have b : execOp (Ai a [156, 157, 158, 159, 160, 161, 162] v).eval Rq = execOp (aG ⟨#[undef], []⟩) ⟨aB 0, .load 44 (.const (aD (aB ⟨Y, 2, aC⟩))), 0, "", #[], aC⟩ := by simp only[execOp, Ac, Rq, H]
  refine Br.mk ?_;unfold aI;rw[b];clear b;go_simp;exact j.out _ _ (A7.next (W:=W) d 3 (aA (aB ⟨l,0,aC⟩) nl yc) (Ao 3 k rfl) (fun _ _ h=>h) rfl ⟨e,f⟩)
 case o4 =>
  rintro s L _ W t m ⟨v,rfl,d,e,f⟩ K j;have I:(Ai a [156,157,158,159,160,161,162] v).eval (.tmp 159)=_:=(Aj 3 k rfl (by omega)).trans (d 3 (m 3 (by simp)));have b : execOp (Ai a [156, 157, 158, 159, 160, 161, 162] v).eval Rr = execOp (aG ⟨#[undef], []⟩) ⟨aB 0, .indexAddr 44 (.const (aA (aB ⟨l, 0, aC⟩) nl yc)) (.const (.int .i64 1)), 0, "", #[], aC⟩ := by simp only[execOp, Ac, Rr, I]
  refine Br.mk ?_;unfold aI;rw[b];clear b;go_simp;exact j.out _ _ (A7.next (W:=W) d 4 (aD (aB ⟨l,2,aC⟩)) (Ao 4 k rfl) (fun _ _ h=>h) rfl ⟨e,f⟩)
 case o5 =>
  rintro s L _ W t m ⟨v,rfl,d,e,f⟩ K j;have u:=e.2.bm.ac.size w;have J:=u.cellAt 2 (by omega);have M:=u.cellAt 3 (by omega);simp only[LAt.cells,bY,bZ,cA,aE,aH]at J M;have N:(Ai a [156,157,158,159,160,161,162] v).eval (.tmp 160)=_:=(Aj 4 k rfl (by omega)).trans (d 4 (m 4 (by simp)));have b : execOp (Ai a [156, 157, 158, 159, 160, 161, 162] v).eval Rs = execOp (aG ⟨#[undef], []⟩) ⟨aB 0, .load 115 (.const (aD (aB ⟨l, 2, aC⟩))), 0, "", #[], aC⟩ := by simp only[execOp, Ac, Rs, N]
  refine Br.mk ?_;unfold aI;rw[b];clear b;go_simp;exact j.out _ _ (A7.next (W:=W) d 5 (bE #[.string q,aA a1 n1 r]) (Ao 5 k rfl) (fun _ _ h=>h) rfl ⟨e,f⟩)
 case o6 =>
  rintro s L _ W t m ⟨v,rfl,d,e,f⟩ K j;have O:(Ai a [156,157,158,159,160,161,162] v).eval (.tmp 157)=_:=(Aj 1 k rfl (by omega)).trans (d 1 (m 1 (by simp)));have b : execOp (Ai a [156, 157, 158, 159, 160, 161, 162] v).eval Rt = execOp (aG ⟨#[undef], []⟩) ⟨aB 0, .indexAddr 44 (.const (aA (aB ⟨l, 0, aC⟩) nl yc)) (.const (.int .i64 0)), 0, "", #[], aC⟩ := by simp only[execOp, Ac, Rt, O]
  refine Br.mk ?_;unfold aI;rw[b];clear b;go_simp;exact j.out _ _ (A7.next (W:=W) d 6 (aD (aB ⟨l,0,aC⟩)) (Ao 6 k rfl) (fun _ _ h=>h) rfl ⟨e,f⟩)
 case o7 =>
  rintro s L _ W t m ⟨v,rfl,d,e,f⟩ K j;have P:(Ai a [156,157,158,159,160,161,162] v).eval (.tmp 162)=_:=(Aj 6 k rfl (by omega)).trans (d 6 (m 6 (by simp)));have R:(Ai a [156,157,158,159,160,161,162] v).eval (.tmp 161)=_:=(Aj 5 k rfl (by omega)).trans (d 5 (m 5 (by simp)));have u:=e.2.bm.ac.size w;have S:=u.cellAt 0 (by omega);have U:=u.cellAt 1 (by omega);simp only[LAt.cells,bY,bZ,cA,aE,aH]at S U;have ae:=u.frozenAt 0;have af:=u.frozenAt 1;have V:=Aa (C v W _ rfl e f);have b : execOp (Ai a [156, 157, 158, 159, 160, 161, 162] v).eval Ru = execOp (aG ⟨#[undef], []⟩) ⟨aB 0, .store 115 (.const (aD (aB ⟨l, 0, aC⟩))) (.const (bE #[.string q, aA a1 n1 r])), 0, "", #[], aC⟩ := by simp only[execOp, Ac, Ru, P, R]
  refine Br.mk ?_;unfold aI;rw[b];clear b;go_simp;exact j.out _ _ (aS V.out)
variable {xa:Option Addr}{xc:Nat}
theorem Ry{l:Nat}{A:List LAt}{C:List (List UInt8)}{cap:Nat}(J:P6 B p c X Y w1 D T ⟨yk,yn,aA (aB ⟨l,0,aC⟩) nl yc,A++⟨xk,aA xa nw xc,C⟩::E⟩ g n cap yk yn kk W0)(aa:A.length=nI)(P:(A++⟨xk,aA xa nw xc,C⟩::E).length=nl)(be:nl<=1000)(bf:c<=W0.heap.size)(U:a.eval (.tmp 7)=aD (aB ⟨Y,0,aC⟩))(af:a.eval (.tmp 8)=.int .i64 (nI:Int))(bg:a.tmps.size=199)
  (ag:∀v W' a' x,a'=Ai a [136,137,138,139,140,141,142,143,144,145] v->(∃o m ah,x=aA o m ah)->FD B p c X Y w1 D T ⟨yk,yn,aA (aB ⟨l,0,aC⟩) nl yc,A++⟨xk,aA xa nw xc,C⟩::E⟩ g n cap kk yk yn x (A++⟨xk,aA xa nw xc,C⟩::E++[⟨xk,aA xa nw xc,C⟩]) W'->Q .normal a' W'):(bF 26 Agc.toArray true).wp prog Q a W0:=by
 have s:([136,137,138,139,140,141,142,143,144,145]:List Nat).Nodup:=by decide
 have bh:nI<nl:=by rw[<-P,<-aa];simp
 have i3:(0:Int)<=(nI:Int):=by omega
 have i4:(nI:Int)<(nl:Int):=by omega
 have bi:l<W0.heap.size:=((J.2.ac ⟨yk,yn,aA (aB ⟨l,0,aC⟩) nl yc,A++⟨xk,aA xa nw xc,C⟩::E⟩ (by simp)).row.lt l rfl).2;have ai:l≠Y:=Ff (J.1.mine.1.2.1 Y (by simp)).1 (by simp only;omega);have bj:Y<W0.heap.size:=(aF.1 J.1.yb).1;obtain⟨i0,ab,aj,ak,al⟩:=info_parts CK;refine Be [136,137,138,139,140,141,142,143,144,145] (TV Y l nI nl yc xk (aA xa nw xc) (fun v W=>FD B p c X Y w1 D T ⟨yk,yn,aA (aB ⟨l,0,aC⟩) nl yc,A++⟨xk,aA xa nw xc,C⟩::E⟩ g n cap kk yk yn v (A++⟨xk,aA xa nw xc,C⟩::E++[⟨xk,aA xa nw xc,C⟩]) (W.setCell ⟨Y,2,aC⟩ v))) (Ag6 Y yk yn (aA (aB ⟨l,0,aC⟩) nl yc) (fun W=>P6 B p c X Y w1 D T ⟨yk,yn,aA (aB ⟨l,0,aC⟩) nl yc,A++⟨xk,aA xa nw xc,C⟩::E⟩ g n cap yk yn kk W/\W0.heap.size<=W.heap.size)) 10 11 [0,1,2,3,4,5,6,7,8,9,10] (by kernel_rfl) rfl (by decide) (by kernel_rfl) ?h1 ⟨J.1.yb,fun _=>⟨J.V (aQ _ _).drew,aM _⟩,(fun h=>by cases h),(fun h=>by cases h)⟩ ?hall;case h1 =>
  intro i x W ab;unfold TV;split <;> first | omega | trivial
 refine Ag.ad (o:=Re) [] (by kernel_rfl) (by decide) (by kernel_rfl) rfl ?o0 (Ag.ad (o:=Rf) [0] (by kernel_rfl) (by decide) (by kernel_rfl) rfl ?o1 (Ag.ad (o:=Rg) [] (by kernel_rfl) (by decide) (by kernel_rfl) rfl ?o2 (Ag.ad (o:=Rh) [2] (by kernel_rfl) (by decide) (by kernel_rfl) rfl ?o3 (Ag.ad (o:=Ri) [] (by kernel_rfl) (by decide) (by kernel_rfl) rfl ?o4 (Ag.ad (o:=Rj) [3,4] (by kernel_rfl) (by decide) (by kernel_rfl) rfl ?o5 (Ag.ad (o:=Rk) [5] (by kernel_rfl) (by decide) (by kernel_rfl) rfl ?o6 (Ag.ad (o:=Rl) [6] (by kernel_rfl) (by decide) (by kernel_rfl) rfl ?o7 (Ag.ad (o:=Aa5) [1,7] (by kernel_rfl) (by decide) (by kernel_rfl) rfl ?o8 (Ag.ad (o:=Rm) [0,1,2,3,4,5,6,7,8] (by kernel_rfl) (by decide) (by kernel_rfl) rfl ?o9 (Ag.lastQ (o:=LU) [9,8,8,0,1,2,3,4,5,6,7,8] (by kernel_rfl) (by kernel_rfl) rfl ?o10))))))))));case o0 =>
  rintro G L _ W F k ⟨v,rfl,b,f,q,w,z⟩ K r;have M:=(A1 (v:=v) (show 7 ∉ ([136,137,138,139,140,141,142,143,144,145]:List Nat) by decide)).trans U;have d : execOp (Ai a [136, 137, 138, 139, 140, 141, 142, 143, 144, 145] v).eval Re = execOp (aG ⟨#[undef], []⟩) ⟨aB 0, .fieldAddr 46 (.const (aD (aB ⟨Y, 0, aC⟩))) 2, 0, "", #[], aC⟩ := by simp only[execOp, Ac, Re, M]
  refine Br.mk ?_;unfold aI;rw[d];clear d;go_simp;exact r.out _ _ (A7.ag (W:=W) b 0 (aD (aB ⟨Y,2,aC⟩)) (Ao 0 s rfl) (fun _ _ _ h=>h) rfl ⟨f,by simpa [CF] using q,by simpa [CF] using w,by simpa [CF] using z⟩)
 case o1 =>
  rintro G L _ W F k ⟨v,rfl,b,f,q,w,z⟩ K r;have N:=Ab f 2;simp only[aK,aE,aH]at N;have am:(Ai a [136,137,138,139,140,141,142,143,144,145] v).eval (.tmp 136)=_:=(Aj 0 s rfl (by omega)).trans (b 0 (k 0 (by simp)));have d : execOp (Ai a [136, 137, 138, 139, 140, 141, 142, 143, 144, 145] v).eval Rf = execOp (aG ⟨#[undef], []⟩) ⟨aB 0, .load 44 (.const (aD (aB ⟨Y, 2, aC⟩))), 0, "", #[], aC⟩ := by simp only[execOp, Ac, Rf, am]
  refine Br.mk ?_;unfold aI;rw[d];clear d;go_simp;exact r.out _ _ (A7.ag (W:=W) b 1 (aA (aB ⟨l,0,aC⟩) nl yc) (Ao 1 s rfl) (fun _ _ _ h=>h) rfl ⟨f,by simpa [CF] using q,by simpa [CF] using w,by simpa [CF] using z⟩)
 case o2 =>
  rintro G L _ W F k ⟨v,rfl,b,f,q,w,z⟩ K r;have M:=(A1 (v:=v) (show 7 ∉ ([136,137,138,139,140,141,142,143,144,145]:List Nat) by decide)).trans U;have d : execOp (Ai a [136, 137, 138, 139, 140, 141, 142, 143, 144, 145] v).eval Rg = execOp (aG ⟨#[undef], []⟩) ⟨aB 0, .fieldAddr 46 (.const (aD (aB ⟨Y, 0, aC⟩))) 2, 0, "", #[], aC⟩ := by simp only[execOp, Ac, Rg, M]
  refine Br.mk ?_;unfold aI;rw[d];clear d;go_simp;exact r.out _ _ (A7.ag (W:=W) b 2 (aD (aB ⟨Y,2,aC⟩)) (Ao 2 s rfl) (fun _ _ _ h=>h) rfl ⟨f,by simpa [CF] using q,by simpa [CF] using w,by simpa [CF] using z⟩)
 case o3 =>
  rintro G L _ W F k ⟨v,rfl,b,f,q,w,z⟩ K r;have N:=Ab f 2;simp only[aK,aE,aH]at N;have an:(Ai a [136,137,138,139,140,141,142,143,144,145] v).eval (.tmp 138)=_:=(Aj 2 s rfl (by omega)).trans (b 2 (k 2 (by simp)));have d : execOp (Ai a [136, 137, 138, 139, 140, 141, 142, 143, 144, 145] v).eval Rh = execOp (aG ⟨#[undef], []⟩) ⟨aB 0, .load 44 (.const (aD (aB ⟨Y, 2, aC⟩))), 0, "", #[], aC⟩ := by simp only[execOp, Ac, Rh, an]
  refine Br.mk ?_;unfold aI;rw[d];clear d;go_simp;exact r.out _ _ (A7.ag (W:=W) b 3 (aA (aB ⟨l,0,aC⟩) nl yc) (Ao 3 s rfl) (fun _ _ _ h=>h) rfl ⟨f,by simpa [CF] using q,by simpa [CF] using w,by simpa [CF] using z⟩)
 case o4 =>
  rintro G L _ W F k ⟨v,rfl,b,f,q,w,z⟩ K r;have ap:=(A1 (v:=v) (show 8 ∉ ([136,137,138,139,140,141,142,143,144,145]:List Nat) by decide)).trans af;have d : execOp (Ai a [136, 137, 138, 139, 140, 141, 142, 143, 144, 145] v).eval Ri = execOp (aG ⟨#[undef], []⟩) ⟨aB 0, .move (.const (.int .i64 (nI : Int))), 0, "", #[], aC⟩ := by simp only[execOp, Ac, Ri, ap]
  refine Br.mk ?_;unfold aI;rw[d];clear d;go_simp;exact r.out _ _ (A7.ag (W:=W) b 4 (.int .i64 (nI:Int)) (Ao 4 s rfl) (fun _ _ _ h=>h) rfl ⟨f,by simpa [CF] using q,by simpa [CF] using w,by simpa [CF] using z⟩)
 case o5 =>
  rintro G L _ W F k ⟨v,rfl,b,f,q,w,z⟩ K r;have aq:(Ai a [136,137,138,139,140,141,142,143,144,145] v).eval (.tmp 139)=_:=(Aj 3 s rfl (by omega)).trans (b 3 (k 3 (by simp)));have ar:(Ai a [136,137,138,139,140,141,142,143,144,145] v).eval (.tmp 140)=_:=(Aj 4 s rfl (by omega)).trans (b 4 (k 4 (by simp)));have d : execOp (Ai a [136, 137, 138, 139, 140, 141, 142, 143, 144, 145] v).eval Rj = execOp (aG ⟨#[undef], []⟩) ⟨aB 0, .indexAddr 44 (.const (aA (aB ⟨l, 0, aC⟩) nl yc)) (.const (.int .i64 (nI : Int))), 0, "", #[], aC⟩ := by simp only[execOp, Ac, Rj, aq, ar]
  refine Br.mk ?_;unfold aI;rw[d];clear d;go_simp;exact r.out _ _ (A7.ag (W:=W) b 5 (aD (aB ⟨l,nI*2,aC⟩)) (Ao 5 s rfl) (fun _ _ _ h=>h) rfl ⟨f,by simpa [CF] using q,by simpa [CF] using w,by simpa [CF] using z⟩)
 case o6 =>
  rintro G L _ W F k ⟨v,rfl,b,f,q,w,z⟩ K r;have V:L 7=false:=by
   cases e:L 7
   ·rfl
   ·have:=z e;rw[F]at this;cases this
  have R:L 8=false:=by
   cases e:L 8
   ·rfl
   ·have:=w e;rw[V]at this;cases this
  have H:=(q R).1;have au:=H.2.bm.ac.cell 0 (by decide);have av:=H.2.bm.ac.cell 1 (by decide);simp only[LAt.cells,aE,aH,bK,aa]at au av;have aw:(Ai a [136,137,138,139,140,141,142,143,144,145] v).eval (.tmp 141)=_:=(Aj 5 s rfl (by omega)).trans (b 5 (k 5 (by simp)));have d : execOp (Ai a [136, 137, 138, 139, 140, 141, 142, 143, 144, 145] v).eval Rk = execOp (aG ⟨#[undef], []⟩) ⟨aB 0, .load 115 (.const (aD (aB ⟨l, nI*2, aC⟩))), 0, "", #[], aC⟩ := by simp only[execOp, Ac, Rk, aw]
  refine Br.mk ?_;unfold aI;rw[d];clear d;go_simp;exact r.out _ _ (A7.ag (W:=W) b 6 (bE #[.string xk,aA xa nw xc]) (Ao 6 s rfl) (fun _ _ _ h=>h) rfl ⟨f,by simpa [CF] using q,by simpa [CF] using w,by simp[CF]⟩)
 case o7 =>
  rintro G L _ W F k ⟨v,rfl,b,f,q,w,z⟩ K r;have V:L 7=false:=F;have R:L 8=false:=by
   cases e:L 8
   ·rfl
   ·have:=w e;rw[V]at this;cases this
  have H:=q R;have ax:(Ai a [136,137,138,139,140,141,142,143,144,145] v).eval (.tmp 142)=_:=(Aj 6 s rfl (by omega)).trans (b 6 (k 6 (by simp)));have d : execOp (Ai a [136, 137, 138, 139, 140, 141, 142, 143, 144, 145] v).eval Rl = execOp (aG ⟨#[undef], []⟩) ⟨aB 0, .buildSlice 44 1 #[(0, .const (bE #[.string xk, aA xa nw xc]))], 0, "", #[], aC⟩ := by simp only[execOp, Ac, Rl, ax, aT, aU, aX]
  refine Br.mk ?_;unfold aI;rw[d];clear d;go_simp;exact r.out _ _ (A7.ag (W:=W) b 7 (aA (aB ⟨W.heap.size,0,aC⟩) 1 1) (Ao 7 s rfl) (fun j y I h=>TV.af (BV.alloc _ _ _) j y (fun e=>by rw[e,R]at I;cases I) h) ⟨_,rfl,by omega,Al _ _⟩ ⟨by rw[Cj _ _ _ (by omega)];exact f,fun _=>⟨H.1.V ((aQ _ _).alloc (aM _) _),by rw[bX];omega⟩,(fun h=>by simp[CF]),(fun h=>by simp[CF,k 6 (by simp)])⟩)
 case o8 =>
  rintro G L _ W F k ⟨v,rfl,b,f,q,w,z⟩ K r;obtain⟨t,ay,bk,az⟩:=b 7 (k 7 (by simp));have a0:(Ai a [136,137,138,139,140,141,142,143,144,145] v).eval (.tmp 137)=_:=(Aj 1 s rfl (by omega)).trans (b 1 (k 1 (by simp)));have a1:(Ai a [136,137,138,139,140,141,142,143,144,145] v).eval (.tmp 143)=_:=(Aj 7 s rfl (by omega)).trans ay;have H:=q F;have a2:=H.1.2.bm.ac.size P;have a3:Ap W (aA (aB ⟨t,0,aC⟩) 1 1) 1 2 [.string xk,aA xa nw xc]:=⟨rfl,_,_,rfl,⟨aM _,by unfold maxLen;omega⟩,.inr ⟨t,0,rfl,fun j u I=>by rw[Nat.zero_add,Ab az j];simpa using I⟩⟩;refine Br.mk ?_;exact Gg (.tmp 137) (.tmp 143) 44 rfl c 115 i0 _ 2 40 underlying44 ab aj ak al rfl (by decide) _ nl _ a0 a2 _ 1 _ a1 a3 (by intro a4 S;simp at S;rcases S with rfl | rfl <;> rfl) (by unfold maxLen;omega) (by omega) (by omega) (fun ao ac a5 ad a6 a7=>by
   have Z:W.grownBy a5 (aB l):=a6;obtain⟨a9,rfl⟩:∃a9,ao=aB ⟨a9,0,aC⟩:=KI ad (by omega);have O:=H.1.1.app (l:=l) (v':=aA (aB ⟨a9,0,aC⟩) (nl+1) ac) (ls':=A++⟨xk,aA xa nw xc,C⟩::E++[⟨xk,aA xa nw xc,C⟩]) H.1.2 rfl (by simp only;omega) Z (by
    have a8:(A++(⟨xk,aA xa nw xc,C⟩:LAt)::E++[(⟨xk,aA xa nw xc,C⟩:LAt)]).length=nl+1:=by rw[bD,P];rfl
    have ba:(A++(⟨xk,aA xa nw xc,C⟩:LAt)::E++[(⟨xk,aA xa nw xc,C⟩:LAt)]).flatMap LAt.cells=(A++(⟨xk,aA xa nw xc,C⟩:LAt)::E).flatMap LAt.cells++[.string xk,aA xa nw xc]:=by rw[List.flatMap_append];rfl
    rw[a8,ba];exact ad) a7 (fun a4 S=>by
     rcases aZ.1 S with h | h
     ·exact h
     ·rw[aJ.1 h];simp) (by rw[bD,P];simp only[List.length_singleton];omega)
   exact r.out _ _ (A7.ag (W:=W) b 8 (aA (aB ⟨a9,0,aC⟩) (nl+1) ac) (Ao 8 s rfl) (fun j y I h=>TV.af (BV.grown Z) j y (fun e=>by rw[e,F]at I;cases I) h) ⟨_,_,rfl,O⟩ ⟨(Z.block Y (by omega) (by intro e;cases e;exact ai rfl)).trans f,(fun h=>by simp[CF]at h),(fun h=>by simp[CF,k 7 (by simp)]),by simpa [CF] using z⟩))
 case o9 =>
  rintro G L _ W F k ⟨v,rfl,b,f,q,w,z⟩ K r;have M:=(A1 (v:=v) (show 7 ∉ ([136,137,138,139,140,141,142,143,144,145]:List Nat) by decide)).trans U;have d : execOp (Ai a [136, 137, 138, 139, 140, 141, 142, 143, 144, 145] v).eval Rm = execOp (aG ⟨#[undef], []⟩) ⟨aB 0, .fieldAddr 46 (.const (aD (aB ⟨Y, 0, aC⟩))) 2, 0, "", #[], aC⟩ := by simp only[execOp, Ac, Rm, M]
  refine Br.mk ?_;unfold aI;rw[d];clear d;go_simp;exact r.out _ _ (A7.ag (W:=W) b 9 (aD (aB ⟨Y,2,aC⟩)) (Ao 9 s rfl) (fun _ _ _ h=>h) rfl ⟨f,by simpa [CF] using q,by simpa [CF] using w,by simpa [CF] using z⟩)
 case o10 =>
  rintro G L _ W F k ⟨v,rfl,b,f,q,w,z⟩ K r;obtain⟨a9,c9,ae,O⟩:=b 8 (k 8 (by simp));rw[ae]at O;have bb:(Ai a [136,137,138,139,140,141,142,143,144,145] v).eval (.tmp 145)=_:=(Aj 9 s rfl (by omega)).trans (b 9 (k 9 (by simp)));have bc:(Ai a [136,137,138,139,140,141,142,143,144,145] v).eval (.tmp 144)=_:=(Aj 8 s rfl (by omega)).trans ae;have N:=Ab f 2;simp only[aK,aE,aH]at N;have bl:=Ad f 2;have bd:=Aa (ag v _ _ _ rfl ⟨_,_,_,rfl⟩ O);clear O;have d : execOp (Ai a [136, 137, 138, 139, 140, 141, 142, 143, 144, 145] v).eval LU = execOp (aG ⟨#[undef], []⟩) ⟨aB 0, .store 44 (.const (aD (aB ⟨Y, 2, aC⟩))) (.const (aA (aB ⟨a9, 0, aC⟩) (nl + 1) c9)), 0, "", #[], aC⟩ := by simp only[execOp, Ac, LU, bb, bc]
  refine Br.mk ?_;unfold aI;rw[d];clear d;go_simp;exact r.out _ _ (aS bd.out)
theorem TX{cap:Nat}(J:Nat->World->Prop)(B:Nat)(w:∀k W,J k W->Rd B W p k)(z:∀k W,J k W->W.cell? ⟨X,0,aC⟩=aB (aA (aB ⟨g,0,aC⟩) n cap))(A:∀k k' W W',J k W->W.grownBy W' (aB p)->Rd B W' p k'->J k' W')(C:∀k W,J k W->J k W.drew)(D:J kk W)(ad:kk<=900000)(ae:n<=1000)(E:a.eval (.tmp 0)=aD (aB ⟨p,0,aC⟩))(F:a.eval (.tmp 5)=aD (aB ⟨X,0,aC⟩))(af:a.tmps.size=199)
  (G:∀v b k' W' a',a'=Ai a [39,40,41,42,43,44,45] v->v 6=.bool b->(b=true->n<=60)->k'<=kk+1->J k' W'->Q .normal a' W'):(bF 9 Ag7.toArray true).wp prog Q a W:=by
 have f:([39,40,41,42,43,44,45]:List Nat).Nodup:=by decide
 refine DK [39,40,41,42,43,44,45] (fun i x _=>Af9 p X g n cap i x) (TU J 4 kk 1) 7 [0,1,2,3,4,5,6] (by kernel_rfl) rfl (by decide) (by kernel_rfl) ?h1 ⟨_,aM _,C _ _ D⟩ ?hall ?hend;case h1 =>
  intro i x W ag;unfold Af9;split <;> first | omega | trivial
 case hend =>
  intro v W' L ah c d;obtain⟨k',t,r⟩:=d.get;obtain⟨b,H,I⟩:=c 6;exact aS (G v b k' W' _ rfl H I t r)
 refine Ag.ad (o:=Xe) [] (by kernel_rfl) (by decide) (by kernel_rfl) rfl ?o0 (Ag.ad (o:=Xf) [0] (by kernel_rfl) (by decide) (by kernel_rfl) rfl ?o1 (Ag.ad (o:=Aa6) [1] (by kernel_rfl) (by decide) (by kernel_rfl) rfl ?o2 (Ag.ad (o:=Xg) [] (by kernel_rfl) (by decide) (by kernel_rfl) rfl ?o3 (Ag.ad (o:=Xh) [3] (by kernel_rfl) (by decide) (by kernel_rfl) rfl ?o4 (Ag.ad (o:=Aa7) [4] (by kernel_rfl) (by decide) (by kernel_rfl) rfl ?o5 (Ag.ad (o:=Aa8) [2,5] (by kernel_rfl) (by decide) (by kernel_rfl) rfl ?o6 Ag.nil))))));case o0 =>
  rintro s L _ W q l ⟨v,rfl,c,d⟩ K j;have M:=(A1 (v:=v) (show 5 ∉ ([39,40,41,42,43,44,45]:List Nat) by decide)).trans F;have m : execOp (Ai a [39, 40, 41, 42, 43, 44, 45] v).eval Xe = execOp (aG ⟨#[undef], []⟩) ⟨aB 0, .fieldAddr 25 (.const (aD (aB ⟨X, 0, aC⟩))) 0, 0, "", #[], aC⟩ := by simp only[execOp, Ac, Xe, M]
  refine Br.mk ?_;unfold aI;rw[m];clear m;go_simp;exact j.out _ _ (A7.next (W:=W) c 0 (aD (aB ⟨X,0,aC⟩)) (Ao 0 f rfl) (fun _ _ h=>h) rfl (d.af (by decide) fun _ h=>h))
 case o1 =>
  rintro s L _ W q l ⟨v,rfl,c,d⟩ K j;obtain⟨k',t,r⟩:=d.get;have ai:=z _ _ r;have N:(Ai a [39,40,41,42,43,44,45] v).eval (.tmp 39)=_:=(Aj 0 f rfl (by omega)).trans (c 0 (l 0 (by simp)));have m : execOp (Ai a [39, 40, 41, 42, 43, 44, 45] v).eval Xf = execOp (aG ⟨#[undef], []⟩) ⟨aB 0, .load 23 (.const (aD (aB ⟨X, 0, aC⟩))), 0, "", #[], aC⟩ := by simp only[execOp, Ac, Xf, N]
  refine Br.mk ?_;unfold aI;rw[m];clear m;go_simp;exact j.out _ _ (A7.next (W:=W) c 1 (aA (aB ⟨g,0,aC⟩) n cap) (Ao 1 f rfl) (fun _ _ h=>h) rfl (d.af (by decide) fun _ h=>h))
 case o2 =>
  rintro s L _ W q l ⟨v,rfl,c,d⟩ K j;have O:(Ai a [39,40,41,42,43,44,45] v).eval (.tmp 40)=_:=(Aj 1 f rfl (by omega)).trans (c 1 (l 1 (by simp)));refine Br.mk ?_;unfold aI;simp only[execOp,Aa6,resolve,aT,aU,aX,O];go_simp;exact j.out _ _ (A7.next (W:=W) c 2 (.int .i64 (n:Int)) (Ao 2 f rfl) (fun _ _ h=>h) rfl (d.af (by decide) fun _ h=>h))
 case o3 =>
  rintro s L _ W q l ⟨v,rfl,c,d⟩ K j;have P:=(A1 (v:=v) (show 0 ∉ ([39,40,41,42,43,44,45]:List Nat) by decide)).trans E;have m : execOp (Ai a [39, 40, 41, 42, 43, 44, 45] v).eval Xg = execOp (aG ⟨#[undef], []⟩) ⟨aB 0, .move (.const (aD (aB ⟨p, 0, aC⟩))), 0, "", #[], aC⟩ := by simp only[execOp, Ac, Xg, P]
  refine Br.mk ?_;unfold aI;rw[m];clear m;go_simp;exact j.out _ _ (A7.next (W:=W) c 3 (aD (aB ⟨p,0,aC⟩)) (Ao 3 f rfl) (fun _ _ h=>h) rfl (d.af (by decide) fun _ h=>h))
 case o4 =>
  rintro s L _ W q l ⟨v,rfl,c,d⟩ K j;have R:(Ai a [39,40,41,42,43,44,45] v).eval (.tmp 42)=_:=(Aj 3 f rfl (by omega)).trans (c 3 (l 3 (by simp)));obtain⟨k',t,r⟩:=d.get0 q;have S:=Bc B p k' 2 W (w _ _ r) (by omega) (by omega) (by omega);have m : execOp (Ai a [39, 40, 41, 42, 43, 44, 45] v).eval Xh = execOp (aG ⟨#[undef], []⟩) ⟨aB 0, .call { callee := .value (.func 44), args := #[.const (aD (aB ⟨p, 0, aC⟩)), .const (.int .i64 2)], argTypes := #[65, 3] }, 0, "", #[], aC⟩ := by simp only[execOp, Ac, BQ, Xh, resolve, aT, aU, aX, R]
  refine Br.mk ?_;unfold aI;rw[m];clear m;go_simp;refine S.mono ?_;rintro e W' ⟨y,u,rfl,T,U⟩;exact j.out _ _ (A7.next (W:=W) c 4 (.int .i64 (y:Int)) (Ao 4 f rfl) (fun _ _ h=>h) ⟨y,u,rfl⟩ (TU.put t (aM _) (A _ _ _ _ r U T)))
 case o5 =>
  rintro s L _ W q l ⟨v,rfl,c,d⟩ K j;obtain⟨y,u,V⟩:=c 4 (l 4 (by simp));have Y:(Ai a [39,40,41,42,43,44,45] v).eval (.tmp 43)=_:=(Aj 4 f rfl (by omega)).trans V;refine Br.mk ?_;unfold aI;simp only[execOp,Ac,Aa7,Y];go_simp;rw[show IntKind.i64.wrap (60+(y:Int))=60+(y:Int) by rw[IntKind.wrap_i64];omega];exact j.out _ _ (A7.next (W:=W) c 5 (.int .i64 (60+(y:Int))) (Ao 5 f rfl) (fun _ _ h=>h) ⟨y,u,rfl⟩ (d.af (by decide) fun _ h=>h))
 case o6 =>
  rintro s L _ W q l ⟨v,rfl,c,d⟩ K j;have Z:v 2=_:=c 2 (l 2 (by simp));obtain⟨y,u,aa⟩:=c 5 (l 5 (by simp));have ab:(Ai a [39,40,41,42,43,44,45] v).eval (.tmp 41)=_:=(Aj 2 f rfl (by omega)).trans Z;have ac:(Ai a [39,40,41,42,43,44,45] v).eval (.tmp 44)=_:=(Aj 5 f rfl (by omega)).trans aa;refine Br.mk ?_;unfold aI;simp only[execOp,Aa8,ab,ac];go_simp;exact j.out _ _ (A7.next (W:=W) c 6 (.bool (decide ((n:Int)<60+(y:Int)))) (Ao 6 f rfl) (fun _ _ h=>h) ⟨_,rfl,fun h=>by have:=of_decide_eq_true h;omega⟩ (d.af (by decide) fun _ h=>h))
structure Om(B p:Nat)(w1:World)(S:Nat)(kk:Nat)(v:Value)(bs:List BAt)(W:World):Prop where
 rd:Rd B W p kk
 gr:w1.grownBy W (aB p)
 box:W.heap[S]?=aB (aN #[v] 25 (0,0))
 Sge:w1.heap.size<=S
 plt:p<w1.heap.size
 bin:As W v bs
 abv:∀q,q<w1.heap.size->AD q v bs
 farS:AD S v bs
 aj:∀b∈bs,Dx b.name b.ls
theorem Om.Slt(h:Om B p w1 S kk v bs W):S<W.heap.size:=(aF.1 h.box).1
theorem Om.grown(h:Om B p w1 S kk v bs W)(g:W.grownBy W' (aB p))(r:Rd B W' p kk'):Om B p w1 S kk' v bs W' :=
 ⟨r,Ar h.gr g,BV.grown g S _ (aO h.plt h.Sge) h.box,h.Sge,h.plt,h.bin.far (h.abv p h.plt) g,h.abv,h.farS,h.aj⟩
theorem Om.V(h:Om B p w1 S kk v bs W)(a:Below W.heap.size W W'):Om B p w1 S kk v bs W' :=
 ⟨h.rd.V a,Ar h.gr (A2 a _),by rw[a.block S h.Slt];exact h.box,h.Sge,h.plt,h.bin.V a,h.abv,h.farS,h.aj⟩
theorem Om.turn{R:Nat}(h:Om B p w1 S kk v bs W)(a:W.grownBy W' (aB R))(c:w1.heap.size<=R)(d:R≠S)(f:AD R v bs):Om B p w1 S kk v bs W':=by
 have j:=aO h.plt c;refine⟨AN.rd h.rd (AN.ai (S:=[R]) a (fun g a=>by cases a;simp)) (fun i b=>by rw[aJ.1 b];exact j),⟨a.os.trans h.gr.os,a.tape.trans h.gr.tape,a.output.trans h.gr.output,aP h.gr.size a.size,fun i b k=>?_⟩,(a.block S h.Slt (by intro e;exact d (bA e).symm)).trans h.box,h.Sge,h.plt,h.bin.far f a,h.abv,h.farS,h.aj⟩;have:=h.gr.size;rw[a.block i (by omega) (by intro e;have:=bA e;omega)];exact h.gr.block i b k
theorem Om.put(h:Om B p w1 S kk v bs W)(d:As W v' bs')(e:∀q,q<w1.heap.size->AD q v' bs')(b:AD S v' bs')(f:∀x∈bs',Dx x.name x.ls):Om B p w1 S kk v' bs' (W.setRow S #[v']):=by
 have c:=Ba W S #[v'];have j:=aO h.plt h.Sge;refine⟨AN.rd h.rd (AN.ai (S:=[S]) c (fun g k=>by cases k;simp)) (fun i a=>by rw[aJ.1 a];exact j),⟨h.gr.os,h.gr.tape,h.gr.output,by rw[setRow_size];exact h.gr.size,fun i a l=>?_⟩,setRow_heap _ _ _ _ _ _ h.box,h.Sge,h.plt,d.far b c,e,b,f⟩;have:=h.Sge;rw[setRow_other _ _ _ _ (by omega)];exact h.gr.block i a l
theorem Om.out{a:Option Addr}{e:List BAt}(h:Om B p w1 S kk v bs W)(z:w1.heap.size=w.heap.size+2)(f:w.grownBy w1 (aB p))(A:p<w.heap.size)(r:kk<=k+d)(C:bs.length<=62)(l:e.map BAt.I=bs.map BAt.I)(s:Aq W.heap.size W' (aA a n c) e)(t:Below W.heap.size W W')(cs:Array Value):Eg d B p k w (aW (bE #[aA a n c])) (W'.setRow (w.heap.size+1) cs):=by
 have u:=Ba W' (w.heap.size+1) cs;have b:=h.V t;have D:=h.gr.size;have m:=(s.setRow (w.heap.size+1) (by omega) cs).mono (show w.heap.size<=W.heap.size by omega);have E:e.length=bs.length:=by have:=congrArg bR l;simpa using this
 refine⟨a,n,c,e,kk,rfl,r,AN.rd b.rd (AN.ai (S:=[w.heap.size+1]) u (fun g x=>by cases x;simp)) (fun i j=>by rw[aJ.1 j];omega),⟨b.gr.os.trans f.os,b.gr.tape.trans f.tape,b.gr.output.trans f.output,?_,fun i j o=>?_⟩,m.bin,⟨Ax.same ⟨by omega,h.aj⟩ l,by omega⟩,fun q y=>m.far y⟩
 ·rw[setRow_size];have:=b.gr.size;omega
 ·rw[setRow_other _ _ _ _ (by omega),b.gr.block i (by omega) o];exact f.block i j o
structure UF(c S Y:Nat)(bk bn:ByteArray)(bv:Value)(ls:List LAt)(W:World):Prop where
 box:W.heap[Y]?=aB (aN #[.string bk,.string bn,bv] 46 (0,0))
 cY:c<=Y
 YS:Y≠S
 free:CP c [S,Y] W bv ls
 aj:Dx bn ls
theorem UF.lt(h:UF c S Y bk bn bv ls W):Y<W.heap.size:=(aF.1 h.box).1
theorem UF.V(h:UF c S Y bk bn bv ls W)(a:Below W.heap.size W W'):UF c S Y bk bn bv ls W' :=
 ⟨(a.block Y h.lt).trans h.box,h.cY,h.YS,h.free.V a,h.aj⟩
theorem UF.grown(h:UF c S Y bk bn bv ls W)(a:W.grownBy W' (aB p))(b:p<c):UF c S Y bk bn bv ls W':=by
 have:=h.cY;exact⟨(a.block Y h.lt (by intro e;have:=bA e;omega)).trans h.box,h.cY,h.YS,h.free.grown a (.inl b),h.aj⟩
theorem UF.put(h:UF c S Y bk bn bv ls W)(a:W.grownBy W' (aB Y))(b:W'.heap[Y]?=aB (aN #[.string bk',.string bn',bv'] 46 (0,0)))(d:CP c [S,Y] W bv' ls')(e:Dx bn' ls'):UF c S Y bk' bn' bv' ls' W' :=
 ⟨b,h.cY,h.YS,d.grown a (.inr (by simp)),e⟩
variable {b0 off sc:Nat}{kind name:ByteArray}
def Mw: Oper := ⟨aB 53, .load 46 (.tmp 7), 46, "l8_draw.go:355", #[], aC⟩
def Mx: Oper := ⟨aB 54, .fieldAddr 46 (.tmp 7) 2, 0, "l8_draw.go:355", #[], aC⟩
def My: Oper := ⟨aB 55, .load 44 (.tmp 54), 44, "l8_draw.go:355", #[⟨1, .data⟩], aC⟩
def Mz: Oper := ⟨aB 56, .move (.tmp 0), 65, "l8_draw.go:355", #[], aC⟩
def M1: Oper := ⟨aB 57, .fieldAddr 46 (.tmp 7) 2, 0, "l8_draw.go:355", #[], aC⟩
def M2: Oper := ⟨aB 58, .load 44 (.tmp 57), 44, "l8_draw.go:355", #[⟨4, .data⟩], aC⟩
def Rz: Oper := ⟨aB 59, .call { callee := .builtin .len, args := #[.tmp 58], argTypes := #[44] }, 3, "l8_draw.go:355", #[⟨5, .data⟩], aC⟩
def M3: Oper := ⟨aB 60, .call { callee := .value (.func 44), args := #[.tmp 56, .tmp 59], argTypes := #[65, 3] }, 3, "l8_draw.go:355", #[⟨3, .data⟩, ⟨6, .data⟩], aC⟩
def M5: Oper := ⟨aB 61, .indexAddr 44 (.tmp 55) (.tmp 60), 0, "l8_draw.go:355", #[⟨2, .data⟩, ⟨7, .data⟩], aC⟩
def M8: Oper := ⟨aB 62, .fieldAddr 115 (.tmp 61) 0, 0, "l8_draw.go:355", #[⟨8, .data⟩], aC⟩
def JX: Oper := ⟨aB 63, .load 9 (.tmp 62), 9, "l8_draw.go:355", #[⟨9, .data⟩], aC⟩
def JY: Oper := ⟨aB 64, .call { callee := .value (.func 107), args := #[.tmp 53, .tmp 63], argTypes := #[46, 9] }, 46, "l8_draw.go:355", #[⟨0, .data⟩, ⟨10, .data⟩, ⟨7, .chain⟩], aC⟩
def JZ: Oper := ⟨aC, .store 46 (.tmp 7) (.tmp 64), 0, "l8_draw.go:355", #[⟨11, .data⟩, ⟨11, .chain⟩, ⟨0, .phase⟩, ⟨1, .phase⟩, ⟨2, .phase⟩, ⟨3, .phase⟩, ⟨4, .phase⟩, ⟨5, .phase⟩, ⟨6, .phase⟩, ⟨7, .phase⟩, ⟨8, .phase⟩, ⟨9, .phase⟩, ⟨10, .phase⟩, ⟨11, .phase⟩], aC⟩
def Ae6:List Oper:=[Mw,Mx,My,Mz,M1,M2,Rz,M3,M5,M8,JX,JY,JZ]
def Hb(c S Y p n b0 off sc:Nat)(kind name:ByteArray)(i:Nat)(x:Value)(W:World):Prop:=match i with
 | 0=>x=bE #[.string kind,.string name,(aA (aB ⟨b0,off,aC⟩) n sc)]
 | 1=>x=aD (aB ⟨Y,2,aC⟩)
 | 2=>x=(aA (aB ⟨b0,off,aC⟩) n sc)
 | 3=>x=aD (aB ⟨p,0,aC⟩)
 | 4=>x=aD (aB ⟨Y,2,aC⟩)
 | 5=>x=(aA (aB ⟨b0,off,aC⟩) n sc)
 | 6=>x=.int .i64 (n:Int)
 | 7=>∃y:Nat,y<n/\x=.int .i64 (y:Int)
 | 8=>∃y:Nat,y<n/\x=aD (aB ⟨b0,off+y*2,aC⟩)
 | 9=>∃y:Nat,y<n/\x=aD (aB ⟨b0,off+y*2,aC⟩)
 | 10=>∃key:ByteArray,x=.string key
 | 11=>∃(a:Option Addr) (m b:Nat) (ls':List LAt),x=bE #[.string kind,.string name,aA a m b]/\CP c [S,Y] W (aA a m b) ls'/\Dx name ls'
 | _=>True
theorem Hb.af(k:∀v ls,CP c [S,Y] W v ls->CP c [S,Y] W' v ls):∀(i:Nat) (x:Value),Hb c S Y p n b0 off sc kind name i x W->Hb c S Y p n b0 off sc kind name i x W':=by
 intro i x h;unfold Hb at *;split <;> simp only at h
 all_goals first | exact h | trivial | (obtain⟨a,m,b,ls',e,h1,d⟩:=h;exact⟨a,m,b,ls',e,k _ _ h1,d⟩)
theorem Ua{g:Nat}{key:ByteArray}{a:Option Addr}(h:UF c S Y bk bn bv ls W)(j:S<W.heap.size)(k:c<=W.heap.size)(i:Below W.heap.size W W')(f:W'.ownsRow W.heap.size 115 2 (aA a n g) (ls.filter (Cf key)).length ((ls.filter (Cf key)).flatMap LAt.cells)):CP c [S,Y] W' (aA a n g) (ls.filter (Cf key))/\Dx bn (ls.filter (Cf key)):=by
 have l:=h.lt;have e:∀x∈ls.filter (Cf key),x∈ls:=fun x b=>(List.mem_filter.1 b).1
 refine⟨⟨⟨AG f,fun x b=>(h.free.1.2 x (e x b)).V i⟩,fun q d=>⟨Cc.above f ?_,fun x b=>(h.free.2.1 q d).2 x (e x b)⟩,fun q d=>⟨Cc.above f (by omega),fun x b=>(h.free.2.2 q d).2 x (e x b)⟩⟩,h.aj.1,aP (List.length_filter_le _ _) h.aj.2.1,fun x b=>h.aj.2.2 x (e x b)⟩;simp only[aR,bC,or_false]at d;rcases d with rfl | rfl <;> omega
theorem Ub(h:As w v bs)(a:w.heap.size<=q):AD q v bs:=⟨Cc.of_lt h.1 (by decide) a,fun x b=>An.fresh (h.2 x b) a⟩
theorem Y1{cs:List BAt}(R:Om B p w1 S kk v cs W0)(Z:UF w1.heap.size S Y kind name (aA (aB ⟨b0,off,aC⟩) n sc) ls W0)(aa:AD Y v cs)(ab:ls.length=n)(ac:n<=1000)(ad:1<=n)(bd:kk<=900000)(ae:a.eval (.tmp 0)=(aD (aB ⟨p,0,aC⟩)))(J:a.eval (.tmp 7)=(aD (aB ⟨Y,0,aC⟩)))(be:a.tmps.size=94)
  (af:∀u z m A ls' k' W' a',a'=Ai a [53,54,55,56,57,58,59,60,61,62,63,64] u->k'<=kk+1->Om B p w1 S k' v cs W'->UF w1.heap.size S Y kind name (aA z m A) ls' W'->Q .normal a' W'):(bF 14 Ae6.toArray true).wp prog Q a W0:=by
 have l:([53,54,55,56,57,58,59,60,61,62,63,64]:List Nat).Nodup:=by decide
 have U:=R.plt;refine Be [53,54,55,56,57,58,59,60,61,62,63,64] (Hb w1.heap.size S Y p n b0 off sc kind name) (TU (fun k W=>Om B p w1 S k v cs W/\UF w1.heap.size S Y kind name (aA (aB ⟨b0,off,aC⟩) n sc) ls W) 7 kk 1) 12 13 [0,1,2,3,4,5,6,7,8,9,10,11,12] (by kernel_rfl) rfl (by decide) (by kernel_rfl) ?h1 ⟨_,aM _,R.V (aQ _ _).drew,Z.V (aQ _ _).drew⟩ ?hall;case h1 =>
  intro i x W bf;unfold Hb;split <;> first | omega | trivial
 refine Ag.ad (o:=Mw) [] (by kernel_rfl) (by decide) (by kernel_rfl) rfl ?o0 (Ag.ad (o:=Mx) [] (by kernel_rfl) (by decide) (by kernel_rfl) rfl ?o1 (Ag.ad (o:=My) [1] (by kernel_rfl) (by decide) (by kernel_rfl) rfl ?o2 (Ag.ad (o:=Mz) [] (by kernel_rfl) (by decide) (by kernel_rfl) rfl ?o3 (Ag.ad (o:=M1) [] (by kernel_rfl) (by decide) (by kernel_rfl) rfl ?o4 (Ag.ad (o:=M2) [4] (by kernel_rfl) (by decide) (by kernel_rfl) rfl ?o5 (Ag.ad (o:=Rz) [5] (by kernel_rfl) (by decide) (by kernel_rfl) rfl ?o6 (Ag.ad (o:=M3) [3,6] (by kernel_rfl) (by decide) (by kernel_rfl) rfl ?o7 (Ag.ad (o:=M5) [2,7] (by kernel_rfl) (by decide) (by kernel_rfl) rfl ?o8 (Ag.ad (o:=M8) [8] (by kernel_rfl) (by decide) (by kernel_rfl) rfl ?o9 (Ag.ad (o:=JX) [9] (by kernel_rfl) (by decide) (by kernel_rfl) rfl ?o10 (Ag.ad (o:=JY) [0,10,7] (by kernel_rfl) (by decide) (by kernel_rfl) rfl ?o11 (Ag.lastQ (o:=JZ) [11,11,0,1,2,3,4,5,6,7,8,9,10,11] (by kernel_rfl) (by kernel_rfl) rfl ?o12))))))))))));case o0 =>
  rintro s L _ W r q ⟨v,rfl,c,f⟩ K j;obtain⟨k',C,t,g⟩:=f.get;have E:=Ab g.box 0;have F:=Ab g.box 1;have G:=Ab g.box 2;simp only[aK,aE,aH]at E F G;have H:=(A1 (v:=v) (show 7 ∉ ([53,54,55,56,57,58,59,60,61,62,63,64]:List Nat) by decide)).trans J;have d : execOp (Ai a [53, 54, 55, 56, 57, 58, 59, 60, 61, 62, 63, 64] v).eval Mw = execOp (aG ⟨#[undef], []⟩) ⟨aB 0, .load 46 (.const (aD (aB ⟨Y, 0, aC⟩))), 0, "", #[], aC⟩ := by simp only[execOp, Ac, Mw, H]
  refine Br.mk ?_;unfold aI;rw[d];clear d;go_simp;exact j.out _ _ (A7.next (W:=W) c 0 (bE #[.string kind,.string name,(aA (aB ⟨b0,off,aC⟩) n sc)]) (Ao 0 l rfl) (Hb.af (fun _ _ h=>h)) rfl (f.af (by decide) fun _ h=>h))
 case o1 =>
  rintro s L _ W r q ⟨v,rfl,c,f⟩ K j;have H:=(A1 (v:=v) (show 7 ∉ ([53,54,55,56,57,58,59,60,61,62,63,64]:List Nat) by decide)).trans J;have d : execOp (Ai a [53, 54, 55, 56, 57, 58, 59, 60, 61, 62, 63, 64] v).eval Mx = execOp (aG ⟨#[undef], []⟩) ⟨aB 0, .fieldAddr 46 (.const (aD (aB ⟨Y, 0, aC⟩))) 2, 0, "", #[], aC⟩ := by simp only[execOp, Ac, Mx, H]
  refine Br.mk ?_;unfold aI;rw[d];clear d;go_simp;exact j.out _ _ (A7.next (W:=W) c 1 (aD (aB ⟨Y,2,aC⟩)) (Ao 1 l rfl) (Hb.af (fun _ _ h=>h)) rfl (f.af (by decide) fun _ h=>h))
 case o2 =>
  rintro s L _ W r q ⟨v,rfl,c,f⟩ K j;obtain⟨k',C,t,g⟩:=f.get;have E:=Ab g.box 0;have F:=Ab g.box 1;have G:=Ab g.box 2;simp only[aK,aE,aH]at E F G;have ag:(Ai a [53,54,55,56,57,58,59,60,61,62,63,64] v).eval (.tmp 54)=_:=(Aj 1 l rfl (by omega)).trans (c 1 (q 1 (by simp)));have d : execOp (Ai a [53, 54, 55, 56, 57, 58, 59, 60, 61, 62, 63, 64] v).eval My = execOp (aG ⟨#[undef], []⟩) ⟨aB 0, .load 44 (.const (aD (aB ⟨Y, 2, aC⟩))), 0, "", #[], aC⟩ := by simp only[execOp, Ac, My, ag]
  refine Br.mk ?_;unfold aI;rw[d];clear d;go_simp;exact j.out _ _ (A7.next (W:=W) c 2 (aA (aB ⟨b0,off,aC⟩) n sc) (Ao 2 l rfl) (Hb.af (fun _ _ h=>h)) rfl (f.af (by decide) fun _ h=>h))
 case o3 =>
  rintro s L _ W r q ⟨v,rfl,c,f⟩ K j;have ah:=(A1 (v:=v) (show 0 ∉ ([53,54,55,56,57,58,59,60,61,62,63,64]:List Nat) by decide)).trans ae;have d : execOp (Ai a [53, 54, 55, 56, 57, 58, 59, 60, 61, 62, 63, 64] v).eval Mz = execOp (aG ⟨#[undef], []⟩) ⟨aB 0, .move (.const (aD (aB ⟨p, 0, aC⟩))), 0, "", #[], aC⟩ := by simp only[execOp, Ac, Mz, ah]
  refine Br.mk ?_;unfold aI;rw[d];clear d;go_simp;exact j.out _ _ (A7.next (W:=W) c 3 (aD (aB ⟨p,0,aC⟩)) (Ao 3 l rfl) (Hb.af (fun _ _ h=>h)) rfl (f.af (by decide) fun _ h=>h))
 case o4 =>
  rintro s L _ W r q ⟨v,rfl,c,f⟩ K j;have H:=(A1 (v:=v) (show 7 ∉ ([53,54,55,56,57,58,59,60,61,62,63,64]:List Nat) by decide)).trans J;have d : execOp (Ai a [53, 54, 55, 56, 57, 58, 59, 60, 61, 62, 63, 64] v).eval M1 = execOp (aG ⟨#[undef], []⟩) ⟨aB 0, .fieldAddr 46 (.const (aD (aB ⟨Y, 0, aC⟩))) 2, 0, "", #[], aC⟩ := by simp only[execOp, Ac, M1, H]
  refine Br.mk ?_;unfold aI;rw[d];clear d;go_simp;exact j.out _ _ (A7.next (W:=W) c 4 (aD (aB ⟨Y,2,aC⟩)) (Ao 4 l rfl) (Hb.af (fun _ _ h=>h)) rfl (f.af (by decide) fun _ h=>h))
 case o5 =>
  rintro s L _ W r q ⟨v,rfl,c,f⟩ K j;obtain⟨k',C,t,g⟩:=f.get;have E:=Ab g.box 0;have F:=Ab g.box 1;have G:=Ab g.box 2;simp only[aK,aE,aH]at E F G;have ai:(Ai a [53,54,55,56,57,58,59,60,61,62,63,64] v).eval (.tmp 57)=_:=(Aj 4 l rfl (by omega)).trans (c 4 (q 4 (by simp)));have d : execOp (Ai a [53, 54, 55, 56, 57, 58, 59, 60, 61, 62, 63, 64] v).eval M2 = execOp (aG ⟨#[undef], []⟩) ⟨aB 0, .load 44 (.const (aD (aB ⟨Y, 2, aC⟩))), 0, "", #[], aC⟩ := by simp only[execOp, Ac, M2, ai]
  refine Br.mk ?_;unfold aI;rw[d];clear d;go_simp;exact j.out _ _ (A7.next (W:=W) c 5 (aA (aB ⟨b0,off,aC⟩) n sc) (Ao 5 l rfl) (Hb.af (fun _ _ h=>h)) rfl (f.af (by decide) fun _ h=>h))
 case o6 =>
  rintro s L _ W r q ⟨v,rfl,c,f⟩ K j;have aj:(Ai a [53,54,55,56,57,58,59,60,61,62,63,64] v).eval (.tmp 58)=_:=(Aj 5 l rfl (by omega)).trans (c 5 (q 5 (by simp)));refine Br.mk ?_;unfold aI;simp only[execOp,Rz,resolve,aT,aU,aX,aj];go_simp;exact j.out _ _ (A7.next (W:=W) c 6 (.int .i64 (n:Int)) (Ao 6 l rfl) (Hb.af (fun _ _ h=>h)) rfl (f.af (by decide) fun _ h=>h))
 case o7 =>
  rintro s L _ W r q ⟨v,rfl,c,f⟩ K j;have ak:(Ai a [53,54,55,56,57,58,59,60,61,62,63,64] v).eval (.tmp 56)=_:=(Aj 3 l rfl (by omega)).trans (c 3 (q 3 (by simp)));have al:(Ai a [53,54,55,56,57,58,59,60,61,62,63,64] v).eval (.tmp 59)=_:=(Aj 6 l rfl (by omega)).trans (c 6 (q 6 (by simp)));obtain⟨k',C,t,g⟩:=f.get0 r;have am:=Bc B p k' n W t.rd ad ac (by omega);have d : execOp (Ai a [53, 54, 55, 56, 57, 58, 59, 60, 61, 62, 63, 64] v).eval M3 = execOp (aG ⟨#[undef], []⟩) ⟨aB 0, .call { callee := .value (.func 44), args := #[.const (aD (aB ⟨p, 0, aC⟩)), .const (.int .i64 (n : Int))], argTypes := #[65, 3] }, 0, "", #[], aC⟩ := by simp only[execOp, Ac, M3, resolve, BQ, aT, aU, aX, ak, al]
  refine Br.mk ?_;unfold aI;rw[d];clear d;go_simp;refine am.mono ?_;rintro e W' ⟨y,I,rfl,an,O⟩;exact j.out _ _ (A7.next (W:=W) c 7 (.int .i64 (y:Int)) (Ao 7 l rfl) (Hb.af (fun _ _ h=>h.grown O (.inl U))) ⟨y,I,rfl⟩ (TU.put C (aM _) ⟨t.grown O an,g.grown O U⟩))
 case o8 =>
  rintro s L _ W r q ⟨v,rfl,c,f⟩ K j;obtain⟨y,I,ao⟩:=c 7 (q 7 (by simp));have ap:(Ai a [53,54,55,56,57,58,59,60,61,62,63,64] v).eval (.tmp 55)=_:=(Aj 2 l rfl (by omega)).trans (c 2 (q 2 (by simp)));have aq:(Ai a [53,54,55,56,57,58,59,60,61,62,63,64] v).eval (.tmp 60)=_:=(Aj 7 l rfl (by omega)).trans ao;have bg:(0:Int)<=(y:Int):=by omega
  have bh:(y:Int)<(n:Int):=by omega
  have d : execOp (Ai a [53, 54, 55, 56, 57, 58, 59, 60, 61, 62, 63, 64] v).eval M5 = execOp (aG ⟨#[undef], []⟩) ⟨aB 0, .indexAddr 44 (.const (aA (aB ⟨b0, off, aC⟩) n sc)) (.const (.int .i64 (y : Int))), 0, "", #[], aC⟩ := by simp only[execOp, Ac, M5, ap, aq]
  refine Br.mk ?_;unfold aI;rw[d];clear d;go_simp;exact j.out _ _ (A7.next (W:=W) c 8 (aD (aB ⟨b0,off+y*2,aC⟩)) (Ao 8 l rfl) (Hb.af (fun _ _ h=>h)) ⟨y,I,rfl⟩ (f.af (by decide) fun _ h=>h))
 case o9 =>
  rintro s L _ W r q ⟨v,rfl,c,f⟩ K j;obtain⟨y,I,ar⟩:=c 8 (q 8 (by simp));have au:(Ai a [53,54,55,56,57,58,59,60,61,62,63,64] v).eval (.tmp 61)=_:=(Aj 8 l rfl (by omega)).trans ar;have d : execOp (Ai a [53, 54, 55, 56, 57, 58, 59, 60, 61, 62, 63, 64] v).eval M8 = execOp (aG ⟨#[undef], []⟩) ⟨aB 0, .fieldAddr 115 (.const (aD (aB ⟨b0, off + y*2, aC⟩))) 0, 0, "", #[], aC⟩ := by simp only[execOp, Ac, M8, au]
  refine Br.mk ?_;unfold aI;rw[d];clear d;go_simp;exact j.out _ _ (A7.next (W:=W) c 9 (aD (aB ⟨b0,off+y*2,aC⟩)) (Ao 9 l rfl) (Hb.af (fun _ _ h=>h)) ⟨y,I,rfl⟩ (f.af (by decide) fun _ h=>h))
 case o10 =>
  rintro s L _ W r q ⟨v,rfl,c,f⟩ K j;obtain⟨y,I,av⟩:=c 9 (q 9 (by simp));have aw:(Ai a [53,54,55,56,57,58,59,60,61,62,63,64] v).eval (.tmp 62)=_:=(Aj 9 l rfl (by omega)).trans av;obtain⟨k',C,t,g⟩:=f.get;obtain⟨D,x,T,ax,ay⟩:=AS ls y (by omega);have V:=g.free.1.1;rw[ab,ax]at V;obtain⟨b',bi,az,a0,X⟩:=V.line;cases az
  simp only[ay]at a0 X;clear X;generalize x.key=xk at *;have d : execOp (Ai a [53, 54, 55, 56, 57, 58, 59, 60, 61, 62, 63, 64] v).eval JX = execOp (aG ⟨#[undef], []⟩) ⟨aB 0, .load 9 (.const (aD (aB ⟨b0, off + y*2, aC⟩))), 0, "", #[], aC⟩ := by simp only[execOp, Ac, JX, aw]
  refine Br.mk ?_;unfold aI;rw[d];clear d;go_simp;exact j.out _ _ (A7.next (W:=W) c 10 (.string xk) (Ao 10 l rfl) (Hb.af (fun _ _ h=>h)) ⟨_,rfl⟩ (f.af (by decide) fun _ h=>h))
 case o11 =>
  rintro s L _ W r q ⟨v,rfl,c,f⟩ K j;obtain⟨key,a1⟩:=c 10 (q 10 (by simp));have a2:(Ai a [53,54,55,56,57,58,59,60,61,62,63,64] v).eval (.tmp 53)=_:=(Aj 0 l rfl (by omega)).trans (c 0 (q 0 (by simp)));have a3:(Ai a [53,54,55,56,57,58,59,60,61,62,63,64] v).eval (.tmp 63)=_:=(Aj 10 l rfl (by omega)).trans a1;obtain⟨k',C,t,g⟩:=f.get;have a4:=OD (b:=⟨kind,name,(aA (aB ⟨b0,off,aC⟩) n sc),ls⟩) key (w:=W) g.free.1 g.aj.2;have a5:=t.gr.size;have d : execOp (Ai a [53, 54, 55, 56, 57, 58, 59, 60, 61, 62, 63, 64] v).eval JY = execOp (aG ⟨#[undef], []⟩) ⟨aB 0, .call { callee := .value (.func 107), args := #[.const (bE #[.string kind, .string name, (aA (aB ⟨b0, off, aC⟩) n sc)]), .const (.string key)], argTypes := #[46, 9] }, 0, "", #[], aC⟩ := by simp only[execOp, Ac, JY, resolve, BQ, aT, aU, aX, a2, a3]
  refine Br.mk ?_;unfold aI;rw[d];clear d;go_simp;refine a4.mono ?_;rintro e W' ⟨z,m,A,rfl,a6,M⟩;have N:=Ua g t.Slt a5 M a6;exact j.out _ _ (A7.next (W:=W) c 11 (bE #[.string kind,.string name,aA z m A]) (Ao 11 l rfl) (Hb.af (fun _ _ h=>h.V M)) ⟨z,m,A,_,rfl,N.1,N.2⟩ (f.af (by decide) fun _ h=>⟨h.1.V M,h.2.V M⟩))
 case o12 =>
  rintro s L _ W r q ⟨v,rfl,c,f⟩ K j;obtain⟨z,m,A,a7,a8,N,a9⟩:=c 11 (q 11 (by simp));have ba:(Ai a [53,54,55,56,57,58,59,60,61,62,63,64] v).eval (.tmp 64)=_:=(Aj 11 l rfl (by omega)).trans a8;have H:=(A1 (v:=v) (show 7 ∉ ([53,54,55,56,57,58,59,60,61,62,63,64]:List Nat) by decide)).trans J;obtain⟨k',C,t,g⟩:=f.get;have E:=Ab g.box 0;have F:=Ab g.box 1;have G:=Ab g.box 2;simp only[aK,aE,aH]at E F G;have bj:=Ad g.box 0;have bk:=Ad g.box 1;have bl:=Ad g.box 2;have P:=N4 (k':=kind) (n':=name) (v':=aA z m A) g.box;have bb:=Aa (t.turn P.2 g.cY g.YS aa);have bc:=Aa (g.put P.2 P.1 N a9);have d : execOp (Ai a [53, 54, 55, 56, 57, 58, 59, 60, 61, 62, 63, 64] v).eval JZ = execOp (aG ⟨#[undef], []⟩) ⟨aB 0, .store 46 (.const (aD (aB ⟨Y, 0, aC⟩))) (.const (bE #[.string kind, .string name, aA z m A])), 0, "", #[], aC⟩ := by simp only[execOp, Ac, JZ, H, ba]
  refine Br.mk ?_;unfold aI;rw[d];clear d;go_simp;exact j.out _ _ (aS (af _ z m A a7 k' _ _ rfl C bb.out bc.out))
