import Derived.Test.YtpdahhnjhggocaaGreatDoorMu11
import Derived.Shelf.Strings.BuilderK
open Go.Region renaming ready->ak,wanted->al,Mode->am,binds->an,noSelect->aq,noSelect_spec->aG,free_spec->aH,free->aY
open Bool renaming and_eq_true->ao,false_eq_true->aS,or_eq_true->aW,not_true->a2
open Array renaming replicate->ap,getElem?_eq_getElem->ar,getElem?_eq_some_iff->ax,setIfInBounds_comm->ay,getElem?_eq_none->aE
open Go.Code renaming region->au
open List renaming range->av,mem_singleton->az,mem_range->aC,all_eq_true->aD,nodup_cons->aF,length_cons->aJ,eq_nil_iff_forall_not_mem->aK,mem_cons->aL,getElem?_toArray->aN,mem_cons_of_mem->aO,countP_pos_iff->aQ,mem_cons_self->aR,any_eq_true->aU,map_cons->aZ
open Option renaming some->aw
open Go.Oper renaming wp->aA,upon->aT,quietUpon->aX,quietAt->a3
open Go.RowKit.Below renaming refl->aB
open Nat renaming zero_add->aI,add_assoc->aM
open List.cons renaming injEq->aP
open Ne renaming symm->aV
open Go.Lib renaming IsBuilderF->a0,BuilderAtF->a1
namespace Go.Proofs.YtpdahhnjhggocaaGreatDoor
open Go.RowKit
set_option maxHeartbeats 16000000
set_option maxRecDepth 100000
variable {md:am}{ops:Array Oper}{listed:Array Bool}{i n f fw id B:Nat}{P:Program}{C:World -> Prop}{oi o:Oper}{v:Value}{Q:Exit -> Act -> World -> Prop}{a:Act}{w u:World}{e:TypeId}
def CC(md:am)(ops:Array Oper)(listed:Array Bool):Prop:=∀j a,ops[j]?=aw a->listed.getD j false=true->∀e∈a.after,an md e=true->listed.getD e.on false=true
theorem CC.start(md:am)(ops:Array Oper)(n:Nat):CC md ops (ap n false):=by
 intro j b _ a;exfalso;by_cases h:j<n
 ·simp[h]at a
 ·simp[h]at a
theorem CC.step(h:CC md ops listed)(g:i∈ak md ops listed):CC md ops (listed.setIfInBounds i true):=by
 intro j k a b e c d;obtain⟨_,o,l,m⟩:=mem_ready.1 g;by_cases f:i=j
 ·subst f;rw[l]at a;cases a
  exact getD_set_true (m e c d)
 ·rw[getD_set_ne false f]at b;exact getD_set_true (h j k a b e c d)
def Fy(md:am)(ops:Array Oper):Nat->Nat->Nat->Bool
 | 0,_,_=>false
 | f+1,n,i=>match ops[n]? with
  | none=>false
  | some o=>o.after.toList.any fun e=>an md e&&(e.on==i || Fy md ops f e.on i)
theorem Th{md:am}{ops:Array Oper}{listed:Array Bool}(h:CC md ops listed){i:Nat}(b:listed.getD i false=false):∀(f n:Nat),Fy md ops f n i=true->∃o,ops[n]?=aw o/\∃e∈o.after,an md e=true/\listed.getD e.on false=false
 | 0,_,e=>by cases e
 | f+1,n,e=>by
  unfold Fy at e;cases c:ops[n]? with
  | none=>rw[c]at e;cases e
  | some o =>
   rw[c]at e;simp only[aU,ao,aW,beq_iff_eq]at e;obtain⟨x,d,g,a⟩:=e;refine⟨o,rfl,x,by simpa using d,g,?_⟩;rcases a with a | a
   ·rw[a];exact b
   ·obtain⟨j,k,y,l,m,p⟩:=Th h b f x.on a;cases q:listed.getD x.on false with
    | false=>rfl
    | true =>
     have:=h x.on j k q y l m;rw[p]at this;cases this
theorem FT(c:i∈ak md ops listed):listed.getD i false=false:=by
 have a:=(mem_ready.1 c).1;rcases Nat.lt_or_ge i listed.size with b | b
 ·simp[b]at a⊢;exact a
 ·simp[aE b]at a
theorem KA(h:CC md ops listed)(c:i∈ak md ops listed)(d:Fy md ops f n i=true):n ∉ ak md ops listed:=by
 intro g;obtain⟨o,j,e,k,l,a⟩:=Th h (FT c) f n d;obtain⟨_,p,b,m⟩:=mem_ready.1 g;rw[j]at b;cases b
 rw[m e k l]at a;cases a
def Nq(P:Program)(md:am)(ops:Array Oper)(C:World->Prop)(n:Nat)(Q:Act->Prop):Nat->Array Bool->Act->Prop
 | 0,_,_=>False
 | f+1,listed,a=>(ak md ops listed=[n]/\ak md ops (listed.setIfInBounds n true)=[]/\Q a)\/(n ∉ ak md ops listed/\ak md ops listed≠[]/\∀i∈ak md ops listed,qOp P ops C i (Nq P md ops C n Q f (listed.setIfInBounds i true)) a)
theorem Nr{P:Program}{md:am}{ops:Array Oper}{C:World->Prop}{n:Nat}{Q:Act->Prop}{e:Exit->Act->World->Prop}(k:∀a w,C w->Q a->wpOp P ops e n (fun a w=>e .normal a w) a w):∀(f:Nat) (listed:Array Bool) (a:Act) (w:World),C w->Nq P md ops C n Q f listed a->wpAny P md ops e f listed a w
 | 0,_,_,_,_,h=>h.elim
 | f+1,listed,a,w,l,h=>by
  rcases h with ⟨h1,b,g⟩ | ⟨h1,b,g⟩
  ·refine⟨fun c=>(by rw[h1]at c;cases c),fun i d=>?_⟩;rw[h1,az]at d;subst d;refine wpOp_mono (fun a w m=>?_) (k a w l g);cases f with
   | zero=>exact⟨b,m⟩
   | succ f=>exact⟨fun _=>m,fun j o=>by rw[b]at o;cases o⟩
  ·exact⟨fun c=>absurd c b,fun i d=>wpOp_of_qOp l (fun a' w' p h=>Nr k f _ a' w' p h) (g i d)⟩
theorem Qf{Q:Act->Prop}(r:ops[i]?=aw oi)(s:∀ (j:Nat) (o:Oper) cs b,ops[j]?=aw o->o.op≠.select cs b)(D:Fy md ops fw n i=true):
  ∀(d:Nat) (listed:Array Bool) (a:Act),CC md ops listed ->
   (∀j c,ops[j]?=aw c->j≠i->listed.getD j true=false->(∀e∈c.after,an md e=true->e.on≠i)->oi.apart ops c=true) ->
   i∈ak md ops listed->YieldsIn P ops C oi v a ->
   Nq P md ops C n Q d (listed.setIfInBounds i true) (a.put oi.dst v)->Nq P md ops C n Q (d+1) listed a:=by
 intro d
 induction d with
 | zero=>intro listed a _ _ _ _ l;exact l.elim
 | succ d E =>
  intro listed a t u f w l;have x:=KA t f D;refine .inr ⟨x,fun h=>(by rw[h]at f;cases f),fun j m=>?_⟩;by_cases g:j=i
  ·subst g;exact w.qOp r l
  ·have p:=ready_mono (i:=i) m g;rcases l with ⟨F,_,_⟩ | ⟨_,_,G⟩
   ·rw[F,az]at p;exact absurd (p▸m) x
   have h1:=G j p;obtain⟨y,c,q,H⟩:=mem_ready.1 m;have I:∀e∈c.after,an md e=true->e.on≠i:=fun e J K L=>by
    have h1:=H e J K;rw[L,FT f]at h1;cases h1
   have M:=qOp_put q (u j c q g y I) (fun cs b=>s i oi cs b r) (fun cs b=>s j c cs b q) w h1
   have N:∀k ok,ops[k]?=aw ok->k≠i->(listed.setIfInBounds j true).getD k true=false ->
     (∀e∈ok.after,an md e=true->e.on≠i)->oi.apart ops ok=true:=fun k ok O R z S=>by
    refine u k ok O R ?_ S;by_cases A:j=k
    ·subst A;exact y
    ·rw[getD_set_ne true A]at z;exact z
   refine qOp_mono (fun a' B=>E (listed.setIfInBounds j true) a' (t.step m) N (ready_mono f (aV g)) B.1 ?_) M;rw[ay _ _ g];exact B.2
def ZQ(md:am)(ops:Array Oper)(n:Nat):Nat->Nat->Array Bool->Bool
 | 0,_,listed=>(ak md ops listed==[n])&&(ak md ops (listed.setIfInBounds n true)).isEmpty
 | f+1,k,listed=>(ak md ops listed).contains k&&aY md ops listed k&&Fy md ops 40 n k&&ZQ md ops n f (k+1) (listed.setIfInBounds k true)
theorem Ns{P:Program}{md:am}{ops:Array Oper}{C:World->Prop}{n:Nat}{Q:Act->Prop}(d:aq ops=true):∀(l:List Oper) (k:Nat) (listed:Array Bool) (a:Act),(∀j o,l[j]?=aw o->ops[k+j]?=aw o) ->
  CC md ops listed->ZQ md ops n l.length k listed=true->wpQuiet P ops C Q l a->Nq P md ops C n Q (l.length+1) listed a
 | [],_,_,_,_,_,b,h=>by
  simp only[List.length_nil,ZQ,ao,beq_iff_eq,List.isEmpty_iff]at b;exact .inl ⟨b.1,b.2,h⟩
 | o::l,k,listed,a,e,f,b,h=>by
  have c:ops[k]?=aw o:=by simpa using e 0 o rfl
  simp only[aJ,ZQ,ao]at b;obtain⟨⟨⟨i,m⟩,p⟩,q⟩:=b;have g:k∈ak md ops listed:=by simpa using i
  have r:qOp P ops C k (wpQuiet P ops C Q l) a:=by unfold qOp;simp only[c];exact h
  obtain⟨v,s,t⟩:=yieldsIn_of_qOp c r
  exact Qf c (aG d) p (l.length+1) listed a f (aH c m) g s
   (Ns d l (k+1) _ _ (fun j x u=>by have:=e (j+1) x (by simpa using u);simpa [aM,Nat.add_comm 1 j] using this) (f.step g) q t)
theorem Fz{l:List Oper}(n:Nat)(f:P.follows .mixedOrders=true)(g:l[n]?=aw o)(i:l.length=n+1)(c:(aq l.toArray&&ZQ .any l.toArray n n 0 (ap (n+1) false))=true)
  (h:wpQuiet P l.toArray (fun w'=>∃p:Gr w,w'=p.u) (fun a'=>∀p:Gr w,∀K:Act->World->Prop,(∀a w,Q .normal a w->K a w)->if al o (yielded l.toArray a'.tmps)=true then aA P o a' p.u K Q else K (a'.put o.dst undef) p.u) (l.take n) a):(au id l.toArray true).wp P Q a w:=by
 rw[ao]at c;have e:(l.take n).length=n:=by rw[List.length_take];omega
 refine wp_region_any f ?_;have k:l.toArray.size=n+1:=by simpa using i
 rw[k];refine Nr (C:=fun w'=>∃p:Gr w,w'=p.u) (n:=n) (Q:=fun a'=>∀p:Gr w,∀K:Act->World->Prop,(∀a w,Q .normal a w->K a w)->if al o (yielded l.toArray a'.tmps)=true then aA P o a' p.u K Q else K (a'.put o.dst undef) p.u) ?_ _ _ _ _ ⟨⟨w.drew,(aB _ _).drew⟩,rfl⟩ ?_
 ·rintro a' w' ⟨p,rfl⟩ m;have:=m p (fun a w=>Q .normal a w) (fun _ _ h=>h);unfold wpOp;rw[aN,g];simp only;split
  ·rename_i d;rw[if_pos d]at this;exact .inl this
  ·rename_i d;rw[if_neg d]at this;exact this
 ·have:=Ns (C:=fun w'=>∃p:Gr w,w'=p.u) (n:=n) c.1 (l.take n) 0 (ap (n+1) false) a (fun j x b=>by
   rw[aI,aN];rw[List.getElem?_take]at b;split at b
   ·exact b
   ·cases b) (CC.start _ _ _) (by rw[e];exact c.2) h
  rw[e]at this;exact this
theorem Ac7{T:TypeId}{b:Nat}{bs:List Value}(h:a0 T e B b bs w)(f:Below w.heap.size w u):a0 T e B b bs u:=by
 have key:∀p,a1 T e B b p bs w->a1 T e B b p bs u:=by
  rintro p ⟨h1,v,i,a,j⟩;have c:∀(k:Nat) (o:Obj),w.heap[k]?=aw o->u.heap[k]?=aw o:=by
   intro k o d;have l:k<w.heap.size:=(ax.1 d).1;rw[f.block k l];exact d
  refine⟨h1,v,c _ _ i,?_,j⟩;refine⟨a.1,?_⟩;rcases a.2 with h | ⟨g,m,n,q,s,t,x,r⟩
  ·exact .inl h
  ·exact .inr ⟨g,m,n,q,s,t,c _ _ x,r⟩
 rcases h with h | h
 ·exact .inl (key _ h)
 ·exact .inr (key _ h)
variable {a':Act}{w':World}{K:Act -> World -> Prop}{j F:Nat}{rs:List Nat}{α:Type}
def CY(P:Program)(ops:Array Oper)(w:World)(o:Oper)(v:Value)(a:Act):Prop :=
 (al o (yielded ops a.tmps)=true/\∀p:Gr w,o.quietAt P a (fun u=>Below p.u.heap.size p.u u) p.u v)\/(al o (yielded ops a.tmps)=false/\v=undef)
theorem CY.same(b:CY P ops w o v a)(c:execOp a'.eval o=execOp a.eval o)(d:al o (yielded ops a'.tmps)=al o (yielded ops a.tmps)):CY P ops w o v a':=by
 unfold CY a3 at *;rw[c,d];exact b
theorem CY.up(c:CY P ops w o v a)(b:Below w.heap.size w w'):CY P ops w' o v a :=
 c.imp (fun⟨h1,d⟩=>⟨h1,fun p=>d ⟨p.u,b.trans (p.h.mono b.size)⟩⟩) id
theorem CY.wpOp(d:ops[i]?=aw o)(g:CY P ops w o v a)(p:Gr w)(h:∀u,Below p.u.heap.size p.u u->K (a.put o.dst v) u):wpOp P ops Q i K a p.u:=by
 unfold Go.wpOp;simp only[d];rcases g with ⟨c,j⟩ | ⟨c,rfl⟩
 ·simp only[c,if_true];refine .inl ?_;have b:=j p;unfold a3 at b;unfold aA;generalize (execOp a.eval o).run P p.u=r at *;cases r with
  | ok n w' =>
   cases n <;> simp only[aX]at b <;> simp only[aT]
   case value x=>obtain⟨rfl,rfl⟩:=b;exact h _ (aB _ _)
   case skip=>obtain⟨rfl,rfl⟩:=b;exact h _ (aB _ _)
   case enter f args =>
    obtain⟨rfl,k⟩:=b;exact k.mono fun e q ⟨l,m⟩=>by subst l;exact h _ m
  | halt x w'=>simp only[aX]at b
 ·simp only[c,aS,if_false];exact h _ (aB _ _)
theorem Vk{g:Oper}(k:ops[j]?=aw g)(h:wpOp P ops Q j K a w):wpOp P ops Q j (fun a' w'=>(∃u d,a'=({ a with defers:=d }:Act).put g.dst u)/\K a' w') a w:=by
 unfold wpOp at *;simp only[k]at *;split
 ·rename_i i;simp only[i,if_true]at h;rcases h with h | h
  case inr=>exact .inr h
  refine .inl ?_;unfold aA at *;generalize (execOp a.eval g).run P w=r at *;cases r with
  | ok n w' =>
   cases n <;> simp only[aT]at h⊢
   case value u=>exact⟨⟨u,a.defers,rfl⟩,h⟩
   case skip=>exact⟨⟨undef,a.defers,rfl⟩,h⟩
   case defer d=>exact⟨⟨undef,d::a.defers,rfl⟩,h⟩
   case enter f args =>
    refine Calls.mono h fun e l b=>?_
    cases e with
    | returned u=>exact⟨⟨u,a.defers,rfl⟩,b⟩
    | panicked c=>exact b
    | outgrown=>exact b
   case row row args=>exact Rows.mono h fun u l b=>⟨⟨u,a.defers,rfl⟩,b⟩
  | halt x w'=>cases x <;> simp only[aT]at h⊢ <;> exact h
 ·rename_i i;simp only[i]at h;exact⟨⟨undef,a.defers,rfl⟩,h⟩
def GZ(P:Program)(md:am)(ops:Array Oper)(Q:Exit->Act->World->Prop)(n:Nat):Nat->Array Bool->Act->World->Prop
 | 0,listed,a,w=>ak md ops listed=[]/\∀p:Gr w,Q .normal a p.u
 | f+1,listed,a,w=>∀p:Gr w,(ak md ops listed=[]->Q .normal a p.u)/\∀i∈ak md ops listed,wpOp P ops Q i (fun a' u=>(i=n/\ak md ops (listed.setIfInBounds n true)=[]/\Q .normal a' u)\/(i≠n/\Below p.u.heap.size p.u u/\GZ P md ops Q n f (listed.setIfInBounds i true) a' u)) a p.u
theorem KB:∀ {f:Nat} {listed:Array Bool} {a:Act} {w w':World},Below w.heap.size w w'->GZ P md ops Q n f listed a w->GZ P md ops Q n f listed a w'
 | 0,_,_,_,_,b,h=>⟨h.1,fun p=>h.2 ⟨p.u,b.trans (p.h.mono b.size)⟩⟩
 | _+1,_,_,_,_,b,h=>fun p=>h ⟨p.u,b.trans (p.h.mono b.size)⟩
theorem KY{P:Program}{md:am}{ops:Array Oper}{Q:Exit->Act->World->Prop}{n:Nat}:∀(f:Nat) (listed:Array Bool) (a:Act) (w:World),GZ P md ops Q n f listed a w->wpAny P md ops Q f listed a w
 | 0,_,_,w,h=>⟨h.1,h.2 ⟨w,aB _ _⟩⟩
 | f+1,listed,a,w,h=>by
  have h1:=h ⟨w,aB _ _⟩;refine⟨h1.1,fun i g=>wpOp_mono (fun a' u b=>?_) (h1.2 i g)⟩;rcases b with ⟨rfl,c,d⟩ | ⟨_,_,b⟩
  ·cases f with
   | zero=>exact⟨c,d⟩
   | succ f=>exact⟨fun _=>d,fun j e=>by rw[c]at e;cases e⟩
  ·exact KY f _ a' u b
theorem Vl(z:ops[i]?=aw oi)(C:∀ (j:Nat) (o:Oper) cs b,ops[j]?=aw o->o.op≠.select cs b)(O:Fy md ops fw n i=true\/ops.size<=n)
  (R:∀c a w,Q (.panic c) (a.put oi.dst v) w->Q (.panic c) a w) :
  ∀(r:Nat) (listed:Array Bool) (a:Act) (w:World),CC md ops listed ->
   (∀j g,ops[j]?=aw g->j≠i->listed.getD j true=false->(∀e∈g.after,an md e=true->e.on≠i)->oi.apart ops g=true) ->
   i∈ak md ops listed->CY P ops w oi v a ->
   GZ P md ops Q n r (listed.setIfInBounds i true) (a.put oi.dst v) w->GZ P md ops Q n (r+1) listed a w:=by
 have D:∀listed:Array Bool,CC md ops listed->i∈ak md ops listed->n ∉ ak md ops listed:=by
  intro listed m f F;rcases O with E | E
  ·exact KA m f E F
  ·obtain⟨_,o,G,_⟩:=mem_ready.1 F;rw[aE E]at G;cases G
 intro r
 induction r with
 | zero =>
  intro listed a w m _ f s t p;refine⟨fun h=>(by rw[h]at f;cases f),fun j q=>?_⟩;by_cases l:j=i
  ·subst l;exact s.wpOp z p fun u y=>.inr ⟨fun e=>D listed m f (e▸f),y,KB (p.h.trans (y.mono p.h.size)) t⟩
  ·have:=ready_mono q l;rw[t.1]at this;cases this
 | succ r T =>
  intro listed a w m H f s t p;refine⟨fun h=>(by rw[h]at f;cases f),fun j q=>?_⟩;by_cases l:j=i
  ·subst l;exact s.wpOp z p fun u y=>.inr ⟨fun e=>D listed m f (e▸f),y,KB (p.h.trans (y.mono p.h.size)) t⟩
  ·have h1:=(t p).2 j (ready_mono q l);obtain⟨I,g,A,U⟩:=mem_ready.1 q;have J:j≠n:=fun e=>D listed m f (e▸q)
   have V:∀e∈g.after,an md e=true->e.on≠i:=fun e W B X=>by
    have h1:=U e W B;rw[X,FT f]at h1;cases h1
   have K:=H j g A l I V;obtain⟨ai,aj,L⟩:=Oper.apart_spec K;have Y:=wpOp_putIf (S:=fun _=>False) A K (fun cs b=>C i oi cs b z) (fun cs b=>C j g cs b A) R (s.imp (fun h=>⟨h.1,fun _ Z=>Z.elim⟩) id) h1
   have aa:∀k ok,ops[k]?=aw ok->k≠i->(listed.setIfInBounds j true).getD k true=false ->
     (∀e∈ok.after,an md e=true->e.on≠i)->oi.apart ops ok=true:=fun k ok ab ac M ad=>by
    refine H k ok ab ac ?_ ad;by_cases N:j=k
    ·subst N;exact I
    ·rw[getD_set_ne true N]at M;exact M
   refine wpOp_mono (fun a' u ae=>?_) (Vk A Y);obtain⟨⟨x,d,rfl⟩,_,af⟩:=ae;rcases af with ⟨e,_⟩ | ⟨_,B,ag⟩
   ·exact absurd e J
   ·refine .inr ⟨J,B,T (listed.setIfInBounds j true) _ u (m.step q) aa (ready_mono f (aV l)) ?_ ?_⟩
    ·have ah:CY P ops w oi v { a with defers:=d }:=s.same rfl rfl;exact(ah.same (execOp_put oi (fun cs b=>C i oi cs b z) _ g.dst x L) (wanted_put oi _ g.dst x L)).up (p.h.trans (B.mono p.h.size))
    ·rw[ay _ _ l];exact ag
def Ed(P:Program)(ops:Array Oper)(w:World)(Q:Act->Prop):List Oper->Act->Prop
 | [],a=>Q a
 | o::rest,a=>if al o (yielded ops a.tmps) then ∃v,(∀p:Gr w,o.quietAt P a (fun u=>Below p.u.heap.size p.u u) p.u v)/\Ed P ops w Q rest (a.put o.dst v) else Ed P ops w Q rest (a.put o.dst undef)
theorem Dc{Q:Act->Prop}{rest:List Oper}(h:∀K:Act->Prop,(∀a,Ed P ops w Q rest a->K a)->if al o (yielded ops a.tmps) then ∃v,(∀p:Gr w,o.quietAt P a (fun u=>Below p.u.heap.size p.u u) p.u v)/\K (a.put o.dst v) else K (a.put o.dst undef)):Ed P ops w Q (o::rest) a:=h _ (fun _ h=>h)
theorem GN{Q:Act->Prop}(h:Q a):Ed P ops w Q [] a:=h
def Qg(md:am)(ops:Array Oper)(n:Nat):List Nat->Array Bool->Bool
 | [],_=>true
 | k::ks,listed=>(ak md ops listed).contains k&&aY md ops listed k&&(Fy md ops 40 n k || ops.size<=n)&&Qg md ops n ks (listed.setIfInBounds k true)
def Qh:List Nat->Array Bool->Array Bool
 | [],listed=>listed
 | k::ks,listed=>Qh ks (listed.setIfInBounds k true)
theorem Vm(p:aq ops=true)(q:∀ (d:Option Tmp) v c a w,Q (.panic c) (a.put d v) w->Q (.panic c) a w)(ks:List Nat):∀(l:List Oper) (f:Nat) (listed:Array Bool) (a:Act),ks.map (fun k=>ops[k]?)=l.map aw->CC md ops listed->Qg md ops n ks listed=true->Ed P ops w (fun a'=>GZ P md ops Q n f (Qh ks listed) a' w) l a->GZ P md ops Q n (f+ks.length) listed a w:=by
 induction ks with
 | nil =>
  intro l f listed a b _ _ h;cases l with
  | nil=>exact h
  | cons o l=>simp at b
 | cons k ks r =>
  intro l f listed a b i j h;cases l with
  | nil=>simp at b
  | cons o l =>
   simp only[aZ,aP]at b;simp only[Qg,ao]at j;obtain⟨⟨⟨s,t⟩,u⟩,x⟩:=j;have m:k∈ak md ops listed:=by simpa using s
   have y:Fy md ops 40 n k=true\/ops.size<=n:=by simpa using u
   obtain⟨v,z,g⟩:∃v,CY P ops w o v a/\Ed P ops w (fun a'=>GZ P md ops Q n f (Qh ks (listed.setIfInBounds k true)) a' w) l (a.put o.dst v):=by
    unfold Ed at h;by_cases e:al o (yielded ops a.tmps)=true
    ·rw[if_pos e]at h;obtain⟨v,A,g⟩:=h;exact⟨v,.inl ⟨e,A⟩,g⟩
    ·rw[if_neg e]at h;exact⟨undef,.inr ⟨by simpa using e,rfl⟩,h⟩
   have h1:=r l f (listed.setIfInBounds k true) (a.put o.dst v) b.2 (i.step m) x g;rw[aJ,<-aM];exact Vl b.1 (aG p) y (fun c a w=>q o.dst v c a w) (f+ks.length) listed a w i (aH b.1 t) m z h1
theorem Qi(n:Nat)(b:P.follows .mixedOrders=true)(h:GZ P .any ops Q n ops.size (ap ops.size false) a w):(au id ops true).wp P Q a w :=
 wp_region_any b (KY _ _ _ _ (KB ((aB _ _).drew) h))
def IC(P:Program)(md:am)(ops:Array Oper)(Q:Exit->Act->World->Prop)(n f:Nat)(listed:Array Bool)(a:Act)(u:World)(rs:List Nat):Prop:=∀i∈rs,wpOp P ops Q i (fun a' b=>(i=n/\ak md ops (listed.setIfInBounds n true)=[]/\Q .normal a' b)\/(i≠n/\Below u.heap.size u b/\GZ P md ops Q n f (listed.setIfInBounds i true) a' b)) a u
theorem IC.nil:IC P md ops Q n f listed a u []:=fun _ h=>by cases h
theorem IC.cons(d:ops[i]?=aw o)(e:i≠n)
  (h:∀K:Act->World->Prop,Shut (∀a' b,Below u.heap.size u b->GZ P md ops Q n f (listed.setIfInBounds i true) a' b->K a' b)->if al o (yielded ops a.tmps)=true then aA P o a u K Q else K (a.put o.dst undef) u)
  (g:IC P md ops Q n f listed a u rs):IC P md ops Q n f listed a u (i::rs):=fun j c=>by
 rcases aL.1 c with rfl | c
 ·exact wpOp_step d (fun K k=>h K (fun a' b l m=>k a' b (.inr ⟨e,l,m⟩)))
 ·exact g j c
theorem KZ(b:ak md ops listed=rs)(c:rs≠[])(h:∀p:Gr w,IC P md ops Q n f listed a p.u rs):GZ P md ops Q n (f+1) listed a w:=fun p=>⟨fun d=>absurd (b▸d) c,b▸h p⟩
theorem XT(c:ak md ops listed=[n])(g:ops[n]?=aw o)(j:ak md ops (listed.setIfInBounds n true)=[])
  (h:∀p:Gr w,∀K:Act->World->Prop,Shut (∀a' b,Q .normal a' b->K a' b)->if al o (yielded ops a.tmps)=true then aA P o a p.u K Q else K (a.put o.dst undef) p.u):GZ P md ops Q n (f+1) listed a w:=fun p =>
 ⟨fun d=>(by rw[c]at d;cases d),fun i e=>by
   rw[c,az]at e;subst e;exact wpOp_step g (fun K k=>h p K (fun a' b l=>k a' b (.inl ⟨rfl,j,l⟩)))⟩
theorem XU(b:ak md ops listed=[])(h:∀p:Gr w,Q .normal a p.u):∀f,GZ P md ops Q n f listed a w
 | 0=>⟨b,h⟩
 | _+1=>fun p=>⟨fun _=>h p,by rw[b];simp⟩
def JA(md:am)(ops:Array Oper)(listed:Array Bool):Bool:=(av ops.size).all fun j=>match ops[j]? with
 | none=>true
 | some a=>!(listed.getD j false) || a.after.toList.all (fun e=>!(an md e) || listed.getD e.on false)
theorem KC(h:JA md ops listed=true):CC md ops listed:=by
 intro j g a b e c d;have f:j<ops.size:=(ax.1 a).1;have:=aD.1 h j (aC.2 f);rw[a]at this;simp only[b,a2,Bool.false_or]at this;have:=aD.1 this e (by simpa using c);simpa [d] using this
def F1{α:Type}:List Bool->List α->List α
 | true::m,o::l=>o::F1 m l
 | false::m,_::l=>F1 m l
 | _,_=>[]
theorem AU(m:List Bool)(o:α)(l:List α):F1 (true::m) (o::l)=o::F1 m l:=rfl
theorem AV(m:List Bool)(o:α)(l:List α):F1 (false::m) (o::l)=F1 m l:=rfl
theorem AR(l:List α):F1 [] l=[]:=by cases l <;> rfl
def Ha:List Bool->Nat->List Nat
 | [],_=>[]
 | true::m,k=>k::Ha m (k+1)
 | false::m,k=>Ha m (k+1)
theorem JB{α:Type}(A:List α):∀(m:List Bool) (l C:List α),A=C++l->m.length=l.length->(Ha m C.length).map (fun k=>A[k]?)=(F1 m l).map aw
 | [],l,C,_,a=>by
  rw[AR];rfl
 | b::m,[],C,_,a=>by simp at a
 | b::m,o::l,C,d,a=>by
  have c:=JB A m l (C++[o]) (by rw[d];simp) (by simpa using a);rw[List.length_append,List.length_singleton]at c;cases b with
  | false=>exact c
  | true =>
   show A[C.length]?::_=aw o::_
   rw[c,d];simp
theorem KD{l:List Oper}(m:List Bool)(f:Nat)(c:F=f+(Ha m 0).length)(b:(m.length==l.length&&aq l.toArray&&JA md l.toArray listed&&Qg md l.toArray n (Ha m 0) listed)=true)
  (h:Ed P l.toArray w (fun a'=>GZ P md l.toArray (NoPanic Q) n f (Qh (Ha m 0) listed) a' w) (F1 m l) a):GZ P md l.toArray (NoPanic Q) n F listed a w:=by
 simp only[ao,beq_iff_eq]at b;obtain⟨⟨⟨h1,d⟩,e⟩,g⟩:=b;subst c;refine Vm d (fun _ _ _ _ _ h=>h) (Ha m 0) (F1 m l) f listed a ?_ (KC e) g h;have:=JB l m l [] rfl h1;simpa using this
theorem ID{l:List Oper}(n F:Nat)(b:P.follows .mixedOrders=true)(c:l.length=F)(h:GZ P .any l.toArray (NoPanic Q) n F (ap F false) a w):(au id l.toArray true).wp P Q a w:=by
 subst c;exact wp_region_noPanic (Qi n b h)
def CV(P:Program)(md:am)(ops:Array Oper)(Q:Exit->Act->World->Prop)(S:World->Prop)(n:Nat):Nat->Array Bool->Act->World->Prop
 | 0,listed,a,w=>ak md ops listed=[]/\Q .normal a w
 | f+1,listed,a,w=>(ak md ops listed=[]->Q .normal a w)/\∀i∈ak md ops listed,wpOp P ops Q i (fun a' u=>(i=n/\ak md ops (listed.setIfInBounds n true)=[]/\Q .normal a' u)\/(i≠n/\S u/\CV P md ops Q S n f (listed.setIfInBounds i true) a' u)) a w
theorem Gj{P:Program}{md:am}{ops:Array Oper}{Q:Exit->Act->World->Prop}{S:World->Prop}{n:Nat}:∀(f:Nat) (listed:Array Bool) (a:Act) (w:World),CV P md ops Q S n f listed a w->wpAny P md ops Q f listed a w
 | 0,_,_,_,h=>h
 | f+1,listed,a,w,h=>by
  refine⟨h.1,fun i g=>wpOp_mono (fun a' u b=>?_) (h.2 i g)⟩;rcases b with ⟨rfl,c,d⟩ | ⟨_,_,b⟩
  ·cases f with
   | zero=>exact⟨c,d⟩
   | succ f=>exact⟨fun _=>d,fun j e=>by rw[c]at e;cases e⟩
  ·exact Gj f _ a' u b
theorem Qj{S:World->Prop}(x:ops[i]?=aw oi)(C:∀ (j:Nat) (o:Oper) cs b,ops[j]?=aw o->o.op≠.select cs b)(K:Fy md ops fw n i=true\/ops.size<=n)
  (L:∀c a w,Q (.panic c) (a.put oi.dst v) w->Q (.panic c) a w) :
  ∀(p:Nat) (listed:Array Bool) (a:Act) (w:World),CC md ops listed ->
   (∀j g,ops[j]?=aw g->j≠i->listed.getD j true=false->(∀e∈g.after,an md e=true->e.on≠i)->oi.apart ops g=true) ->
   i∈ak md ops listed->YieldsIf P ops S oi v a->S w ->
   CV P md ops Q S n p (listed.setIfInBounds i true) (a.put oi.dst v) w->CV P md ops Q S n (p+1) listed a w:=by
 have y:∀listed:Array Bool,CC md ops listed->i∈ak md ops listed->n ∉ ak md ops listed:=by
  intro listed l d D;rcases K with z | z
  ·exact KA l d z D
  ·obtain⟨_,o,E,_⟩:=mem_ready.1 D;rw[aE z]at E;cases E
 intro p
 induction p with
 | zero =>
  intro listed a w l _ d s q r;refine⟨fun h=>(by rw[h]at d;cases d),fun j m=>?_⟩;by_cases f:j=i
  ·subst f;exact s.wpOp x q (.inr ⟨fun e=>y listed l d (e▸d),q,r⟩)
  ·have:=ready_mono m f;rw[r.1]at this;cases this
 | succ p M =>
  intro listed a w l F d s q r;refine⟨fun h=>(by rw[h]at d;cases d),fun j m=>?_⟩;by_cases f:j=i
  ·subst f;exact s.wpOp x q (.inr ⟨fun e=>y listed l d (e▸d),q,r⟩)
  ·have h1:=r.2 j (ready_mono m f);obtain⟨G,g,A,N⟩:=mem_ready.1 m;have H:j≠n:=fun e=>y listed l d (e▸m)
   have O:∀e∈g.after,an md e=true->e.on≠i:=fun e R t T=>by
    have h1:=N e R t;rw[T,FT d]at h1;cases h1
   have U:=F j g A f G O;have V:=wpOp_putIf A U (fun cs b=>C i oi cs b x) (fun cs b=>C j g cs b A) L s h1
   have W:∀k ok,ops[k]?=aw ok->k≠i->(listed.setIfInBounds j true).getD k true=false ->
     (∀e∈ok.after,an md e=true->e.on≠i)->oi.apart ops ok=true:=fun k ok X Y I Z=>by
    refine F k ok X Y ?_ Z;by_cases J:j=k
    ·subst J;exact G
    ·rw[getD_set_ne true J]at I;exact I
   refine wpOp_mono (fun a' u B=>?_) V;obtain⟨B,aa⟩:=B;rcases aa with ⟨e,_⟩ | ⟨_,t,ab⟩
   ·exact absurd e H
   ·refine .inr ⟨H,t,M (listed.setIfInBounds j true) _ u (l.step m) W (ready_mono d (aV f)) B t ?_⟩;rw[ay _ _ f];exact ab
def D8(P:Program)(ops:Array Oper)(S:World->Prop)(Q:Act->Prop):List Oper->Act->Prop
 | [],a=>Q a
 | o::rest,a=>if al o (yielded ops a.tmps) then ∃v,(∀p:{ w:World // S w },(execOp a.eval o).run P p.1=.ok (.value v) p.1)/\D8 P ops S Q rest (a.put o.dst v) else D8 P ops S Q rest (a.put o.dst undef)
theorem Av{S:World->Prop}{Q:Act->Prop}{rest:List Oper}(h:∀K:Act->Prop,(∀a,D8 P ops S Q rest a->K a)->if al o (yielded ops a.tmps) then ∃v,(∀p:{ w:World // S w },(execOp a.eval o).run P p.1=.ok (.value v) p.1)/\K (a.put o.dst v) else K (a.put o.dst undef)):D8 P ops S Q (o::rest) a:=h _ (fun _ h=>h)
theorem A4{S:World->Prop}{Q:Act->Prop}(h:Q a):D8 P ops S Q [] a:=h
theorem JC{S:World->Prop}(q:aq ops=true)(r:∀ (d:Option Tmp) v c a w,Q (.panic c) (a.put d v) w->Q (.panic c) a w)(s:S w)(ks:List Nat):∀(l:List Oper) (f:Nat) (listed:Array Bool) (a:Act),ks.map (fun k=>ops[k]?)=l.map aw->CC md ops listed->Qg md ops n ks listed=true->D8 P ops S (fun a'=>CV P md ops Q S n f (Qh ks listed) a' w) l a->CV P md ops Q S n (f+ks.length) listed a w:=by
 induction ks with
 | nil =>
  intro l f listed a b _ _ h;cases l with
  | nil=>exact h
  | cons o l=>simp at b
 | cons k ks t =>
  intro l f listed a b j m h;cases l with
  | nil=>simp at b
  | cons o l =>
   simp only[aZ,aP]at b;simp only[Qg,ao]at m;obtain⟨⟨⟨u,x⟩,g⟩,y⟩:=m;have p:k∈ak md ops listed:=by simpa using u
   have z:Fy md ops 40 n k=true\/ops.size<=n:=by simpa using g
   obtain⟨v,A,i⟩:∃v,YieldsIf P ops S o v a/\D8 P ops S (fun a'=>CV P md ops Q S n f (Qh ks (listed.setIfInBounds k true)) a' w) l (a.put o.dst v):=by
    unfold D8 at h;by_cases e:al o (yielded ops a.tmps)=true
    ·rw[if_pos e]at h;obtain⟨v,B,i⟩:=h;exact⟨v,.inl ⟨e,fun w g=>B ⟨w,g⟩⟩,i⟩
    ·rw[if_neg e]at h;exact⟨undef,.inr ⟨by simpa using e,rfl⟩,h⟩
   have h1:=t l f (listed.setIfInBounds k true) (a.put o.dst v) b.2 (j.step p) y i;rw[aJ,<-aM];exact Qj b.1 (aG q) z (fun c a w=>r o.dst v c a w) (f+ks.length) listed a w j (aH b.1 x) p A s h1
theorem AF{S:World->Prop}{l:List Oper}(m:List Bool)(f:Nat)(c:F=f+(Ha m 0).length)(b:(m.length==l.length&&aq l.toArray&&JA md l.toArray listed&&Qg md l.toArray n (Ha m 0) listed)=true)(d:S w)
  (h:D8 P l.toArray S (fun a'=>CV P md l.toArray (NoPanic Q) S n f (Qh (Ha m 0) listed) a' w) (F1 m l) a):CV P md l.toArray (NoPanic Q) S n F listed a w:=by
 simp only[ao,beq_iff_eq]at b;obtain⟨⟨⟨h1,e⟩,g⟩,i⟩:=b;subst c;refine JC e (fun _ _ _ _ _ h=>h) d (Ha m 0) (F1 m l) f listed a ?_ (KC g) i h;have:=JB l m l [] rfl h1;simpa using this
theorem AW{S:World->Prop}{l:List Oper}(n F:Nat)(b:P.follows .mixedOrders=true)(c:l.length=F)(h:CV P .any l.toArray (NoPanic Q) S n F (ap F false) a w.drew):(au id l.toArray true).wp P Q a w:=by
 subst c;exact wp_region_noPanic (wp_region_any b (Gj _ _ _ _ h))
def Af(P:Program)(md:am)(ops:Array Oper)(Q:Exit->Act->World->Prop)(S:World->Prop)(n f:Nat)(listed:Array Bool)(a:Act)(u:World)(rs:List Nat):Prop:=∀i∈rs,wpOp P ops Q i (fun a' b=>(i=n/\ak md ops (listed.setIfInBounds n true)=[]/\Q .normal a' b)\/(i≠n/\S b/\CV P md ops Q S n f (listed.setIfInBounds i true) a' b)) a u
theorem Af.nil{S:World->Prop}:Af P md ops Q S n f listed a u []:=fun _ h=>by cases h
theorem Af.cons{S:World->Prop}(d:ops[i]?=aw o)(e:i≠n)
  (h:∀K:Act->World->Prop,Shut (∀a' b,S b->CV P md ops Q S n f (listed.setIfInBounds i true) a' b->K a' b)->if al o (yielded ops a.tmps)=true then aA P o a u K Q else K (a.put o.dst undef) u)
  (g:Af P md ops Q S n f listed a u rs):Af P md ops Q S n f listed a u (i::rs):=fun j c=>by
 rcases aL.1 c with rfl | c
 ·exact wpOp_step d (fun K k=>h K (fun a' b l m=>k a' b (.inr ⟨e,l,m⟩)))
 ·exact g j c
theorem Ae{S:World->Prop}(b:ak md ops listed=rs)(c:rs≠[])(h:Af P md ops Q S n f listed a w rs):CV P md ops Q S n (f+1) listed a w:=⟨fun d=>absurd (b▸d) c,b▸h⟩
theorem AK{S:World->Prop}(c:ak md ops listed=[n])(g:ops[n]?=aw o)(j:ak md ops (listed.setIfInBounds n true)=[])
  (h:∀K:Act->World->Prop,Shut (∀a' b,Q .normal a' b->K a' b)->if al o (yielded ops a.tmps)=true then aA P o a w K Q else K (a.put o.dst undef) w):CV P md ops Q S n (f+1) listed a w :=
 ⟨fun d=>(by rw[c]at d;cases d),fun i e=>by
   rw[c,az]at e;subst e;exact wpOp_step g (fun K k=>h K (fun a' b l=>k a' b (.inl ⟨rfl,j,l⟩)))⟩
variable {Inv:(Nat -> Bool) -> Act -> World -> Prop}{W W':World}
def CF(L:Nat->Bool)(i:Nat):Nat->Bool:=fun j=>if j=i then true else L j
def Dv(md:am)(ops:Array Oper)(i:Nat):List Nat:=match ops[i]? with
 | none=>[]
 | some o=>(o.after.toList.filter (fun e=>an md e)).map (fun e=>e.on)
def Ag(P:Program)(md:am)(ops:Array Oper)(Q:Exit->Act->World->Prop)(Inv:(Nat->Bool)->Act->World->Prop)(n:Nat)(is:List Nat):Prop:=∀i∈is,∀(L:Nat->Bool) (a:Act) (w:World),L i=false->(∀j∈Dv md ops i,L j=true)->Inv L a w->wpOp P ops Q i (fun a' u=>if i=n then Q .normal a' u else Inv (CF L i) a' u) a w
theorem Ag.nil:Ag P md ops Q Inv n []:=fun _ h=>by cases h
theorem Ag.cons{is:List Nat}(d:List Nat)(e:ops[i]?=aw o)(f:i≠n)(g:Dv md ops i=d)
  (h:∀(L:Nat->Bool) (a:Act) (w:World),L i=false->(∀j∈d,L j=true)->Inv L a w->∀K:Act->World->Prop,Shut (∀a' b,Inv (CF L i) a' b->K a' b)->if al o (yielded ops a.tmps)=true then aA P o a w K Q else K (a.put o.dst undef) w)
  (k:Ag P md ops Q Inv n is):Ag P md ops Q Inv n (i::is):=fun j c=>by
 rcases aL.1 c with rfl | c
 ·intro L a w l h1 m;exact wpOp_step e (fun K p=>h L a w l (g▸h1) m K (fun a' b q=>p a' b (by rw[if_neg f];exact q)))
 ·exact k j c
theorem Ag.last(c:List Nat)(e:ops[n]?=aw o)(f:Dv md ops n=c)
  (h:∀(L:Nat->Bool) (a:Act) (w:World),L n=false->(∀j∈c,L j=true)->Inv L a w->∀K:Act->World->Prop,Shut (∀a' b,Q .normal a' b->K a' b)->if al o (yielded ops a.tmps)=true then aA P o a w K Q else K (a.put o.dst undef) w):Ag P md ops Q Inv n [n]:=fun j d=>by
 rw[az]at d;subst d;intro L a w g h1 i;exact wpOp_step e (fun K k=>h L a w g (f▸h1) i K (fun a' b l=>k a' b (by rw[if_pos rfl];exact l)))
def Yd(md:am)(ops:Array Oper)(n:Nat):Bool:=(av ops.size).all (fun i=>(Dv md ops i).all (fun j=>decide (j<i)))&&(av ops.size).all (fun j=>j==n || ((Dv md ops n).contains j || (Dv md ops n).any (fun m=>(Dv md ops m).contains j)))&&decide (n<ops.size)
def Tv(listed:Array Bool):Nat:=listed.toList.countP (fun b=>!b)
theorem GQ(c:ops[i]?=aw o):j∈Dv md ops i↔∃e∈o.after,an md e=true/\e.on=j:=by
 unfold Dv;rw[c];simp only[List.mem_map,List.mem_filter,Array.mem_toList_iff];constructor
 ·rintro⟨e,⟨h1,a⟩,b⟩;exact⟨e,h1,a,b⟩
 ·rintro⟨e,h1,a,b⟩;exact⟨e,⟨h1,a⟩,b⟩
theorem F8(h:j<listed.size)(a b:Bool):listed.getD j a=listed.getD j b:=by simp[h]
theorem Tw(o:listed.size=ops.size)(c:∀i,i<ops.size->∀j∈Dv md ops i,j<i):∀j,j<ops.size->listed.getD j true=false->∃i,i∈ak md ops listed:=by
 intro j
 induction j using Nat.strongRecOn with
 | _ j g =>
  intro a h;by_cases b:∀k∈Dv md ops j,listed.getD k true=true
  ·refine⟨j,mem_ready.2 ⟨h,ops[j],ar a,fun e l m=>?_⟩⟩;have d:e.on∈Dv md ops j:=(GQ (ar a)).2 ⟨e,l,m,rfl⟩;have f:=c j a _ d;rw[F8 (by omega) false true];exact b _ d
  ·simp only[Classical.not_forall,Bool.not_eq_true]at b;obtain⟨k,n,h1⟩:=b;have f:=c j a k n;exact g k f (by omega) h1
theorem Qp(a:i<listed.size)(h:listed.getD i true=false):Tv listed=Tv (listed.setIfInBounds i true)+1:=by
 unfold Tv;rw[Array.toList_setIfInBounds];have c:i<listed.toList.length:=by simpa using a
 have h1:listed.toList[i]=false:=by simpa [a] using h
 rw[List.countP_set c,h1];have:0<listed.toList.countP (fun b=>!b):=aQ.2 ⟨false,h1▸List.getElem_mem c,rfl⟩;simp only[Bool.not_false,if_true,a2,aS,if_false];omega
theorem Ja(a:i<listed.size):(fun j=>(listed.setIfInBounds i true).getD j true)=CF (fun j=>listed.getD j true) i:=by
 funext j
 unfold CF;by_cases h:j=i
 ·subst h;simp[a]
 ·rw[if_neg h,getD_set_ne true (aV h)]
theorem Ye(h:Yd md ops n=true)(D:Ag P md ops Q Inv n (av ops.size)):
  ∀(f:Nat) (listed:Array Bool) (a:Act) (w:World),CC md ops listed->listed.size=ops.size->listed.getD n true=false->Tv listed=f->Inv (fun j=>listed.getD j true) a w->wpAny P md ops Q f listed a w:=by
 unfold Yd at h;simp only[ao,aD,aC,decide_eq_true_eq,aW,beq_iff_eq,List.contains_iff_mem,aU]at h;obtain⟨⟨k,E⟩,F⟩:=h;intro f
 induction f with
 | zero =>
  intro listed a w _ l g v _;rw[Qp (by omega) g]at v;omega
 | succ f G =>
  intro listed a w x l g v H;refine⟨fun I=>?_,fun i c=>?_⟩
  ·obtain⟨i,c⟩:=Tw l k n F g;rw[I]at c;cases c
  ·obtain⟨y,o,z,J⟩:=mem_ready.1 c;have p:i<ops.size:=(ax.1 z).1;have q:∀j∈Dv md ops i,listed.getD j true=true:=by
    intro j b;obtain⟨e,r,s,rfl⟩:=(GQ z).1 b;have:=k i p _ b;rw[F8 (by omega) true false];exact J e r s
   refine wpOp_mono (fun a' u d=>?_) (D i (aC.2 p) _ a w y q H);have R:=Qp (by omega) y;by_cases t:i=n
   ·subst t;rw[if_pos rfl]at d;have K:∀j,(listed.setIfInBounds i true).getD j true=true:=by
     intro j;have:=congrFun (Ja (listed:=listed) (i:=i) (by omega)) j;rw[this];unfold CF;split
     ·rfl
     ·rename_i L;by_cases b:j<ops.size
      ·rcases E j b with e | M | ⟨m,A,N⟩
       ·exact absurd e L
       ·exact q j M
       ·have O:=q m A;have S:=k i p m A;have B:m<ops.size:=by omega
        obtain⟨e,r,s,rfl⟩:=(GQ (ar B)).1 N;have:=x m ops[m] (ar B) (by rw[F8 (by omega) false true];exact O) e r s;show listed.getD e.on true=true
        rw[F8 (show e.on<listed.size by omega) true false];exact this
      ·have:listed.size<=j:=by omega
       simp[this]
    have C:ak md ops (listed.setIfInBounds i true)=[]:=by
     rw[aK];intro j b;have:=(mem_ready.1 b).1;rw[K j]at this;cases this
    cases f with
    | zero=>exact⟨C,d⟩
    | succ f=>exact⟨fun _=>d,fun j b=>by rw[C]at b;cases b⟩
   ·rw[if_neg t]at d;refine G _ _ _ (x.step c) (by simpa using l) ?_ (by omega) (by rw[Ja (by omega)];exact d);rw[getD_set_ne true t];exact g
theorem WZ(F:Nat):Tv (ap F false)=F:=by unfold Tv;rw[Array.toList_replicate,List.countP_replicate];rfl
theorem IF{l:List Oper}(Inv:(Nat->Bool)->Act->World->Prop)(n F:Nat)(is:List Nat)(d:P.follows .mixedOrders=true)(e:l.length=F)(f:av F=is)(b:Yd .any l.toArray n=true)(start:Inv (fun j=>decide (F<=j)) a w.drew)(g:Ag P .any l.toArray (NoPanic Q) Inv n is):(au id l.toArray true).wp P Q a w:=by
 subst e f;refine wp_region_noPanic (wp_region_any d ?_);have h:n<l.length:=by unfold Yd at b;simp only[ao,decide_eq_true_eq,List.size_toArray]at b;exact b.2
 refine Ye b (by simpa using g) _ _ _ _ (CC.start _ _ _) (by simp) (by simp[h]) (by rw[WZ]) ?_;have:(fun j=>(ap l.toArray.size false).getD j true)=fun j=>decide (l.length<=j):=by
  funext j
  by_cases c:j<l.length
  ·simp[c]
  ·simp[c];omega
 rw[this];exact start
def A7(A:(Nat->Value)->Act)(F:Nat->Value->World->Prop)(b:(Nat->Bool)->World->Prop)(L:Nat->Bool)(a:Act)(W:World):Prop:=∃v:Nat->Value,a=A v/\(∀i,L i=true->F i (v i) W)/\b L W
theorem A7.next{A:(Nat->Value)->Act}{F:Nat->Value->World->Prop}{a:(Nat->Bool)->World->Prop}{L:Nat->Bool}{v:Nat->Value}(h:∀i,L i=true->F i (v i) W)(i:Nat)(x:Value)(b:a'=A (fun j=>if j=i then x else v j))(c:∀j y,F j y W->F j y W')(d:F i x W')(f:a (CF L i) W'):A7 A F a (CF L i) a' W':=by
 refine⟨_,b,fun j g=>?_,f⟩;by_cases e:j=i
 ·subst e;simpa using d
 ·simp only[e,if_false];refine c j _ (h j ?_);simpa [CF,e] using g
def CL:List Nat->(Nat->Value)->Nat->Array Value->Array Value
 | [],_,_,t=>t
 | d::ds,v,k,t=>CL ds v (k+1) (t.setIfInBounds d (v k))
def Ai(a:Act)(ds:List Nat)(v:Nat->Value):Act:={ a with tmps:=CL ds v 0 a.tmps }
theorem N1{l:List Oper}(ds:List Nat)(b:Nat->Value->World->Prop)(c:(Nat->Bool)->World->Prop)(n F:Nat)(is:List Nat)(d:P.follows .mixedOrders=true)(e:l.length=F)(f:av F=is)(g:Yd .any l.toArray n=true)(v0:Nat->Value)(h:a=Ai a ds v0)(h1:∀i,F<=i->b i (v0 i) w.drew)(k:c (fun j=>decide (F<=j)) w.drew)(m:Ag P .any l.toArray (NoPanic Q) (A7 (Ai a ds) b c) n is):(au id l.toArray true).wp P Q a w :=
 IF (A7 (Ai a ds) b c) n F is d e f g ⟨v0,h,fun i o=>h1 i (by simpa using o),k⟩ m
def Adj(md:am)(ops:Array Oper):Bool:=(av ops.size).all (fun i=>(Dv md ops i).all (fun j=>decide (j<i)))
theorem Vu(g:Adj md ops=true)(v:Ag P md ops Q Inv ops.size (av ops.size))(hend:∀ (L:Nat->Bool) (a:Act) (w:World),(∀j,L j=true)->Inv L a w->Q .normal a w):
  ∀(f:Nat) (listed:Array Bool) (a:Act) (w:World),CC md ops listed->listed.size=ops.size->Tv listed=f->Inv (fun j=>listed.getD j true) a w->wpAny P md ops Q f listed a w:=by
 unfold Adj at g;simp only[aD,aC,decide_eq_true_eq]at g;have n:=g;intro f
 induction f with
 | zero =>
  intro listed a w _ h k l;have p:∀j,listed.getD j true=true:=by
   intro j;by_cases c:j<listed.size
   ·have:=List.countP_eq_zero.1 k listed[j] (by simp);simpa [c] using this
   ·simp[Nat.le_of_not_lt c]
  refine⟨?_,hend _ a w p l⟩;rw[aK];intro j c;have:=(mem_ready.1 c).1;rw[p j]at this;cases this
 | succ f x =>
  intro listed a w y h k l;refine⟨fun z=>?_,fun i d=>?_⟩
  ·obtain⟨b,m,A⟩:=aQ.1 (show 0<listed.toList.countP (fun b=>!b) by unfold Tv at k;omega);obtain⟨j,c,e⟩:=List.mem_iff_getElem.1 m;have B:j<listed.size:=by simpa using c
   obtain⟨i,d⟩:=Tw h n j (by omega) (by
    have C:listed[j]=b:=by simpa using e
    simp only[B,Array.getD_eq_getD_getElem?,ar,Option.getD_some,C];simpa using A)
   rw[z]at d;cases d
  ·obtain⟨q,o,r,D⟩:=mem_ready.1 d;have s:i<ops.size:=(ax.1 r).1;have E:∀j∈Dv md ops i,listed.getD j true=true:=by
    intro j c;obtain⟨e,F,m,rfl⟩:=(GQ r).1 c;have:=n i s _ c;rw[F8 (by omega) true false];exact D e F m
   refine wpOp_mono (fun a' u t=>?_) (v i (aC.2 s) _ a w q E l);have G:=Qp (by omega) q;rw[if_neg (by omega)]at t;exact x _ _ _ (y.step d) (by simpa using h) (by omega) (by rw[Ja (by omega)];exact t)
theorem N2{l:List Oper}(ds:List Nat)(b:Nat->Value->World->Prop)(c:(Nat->Bool)->World->Prop)(F:Nat)(is:List Nat)(g:P.follows .mixedOrders=true)(h:l.length=F)(k:av F=is)(m:Adj .any l.toArray=true)(v0:Nat->Value)(n:a=Ai a ds v0)(h1:∀i,F<=i->b i (v0 i) w.drew)(o:c (fun j=>decide (F<=j)) w.drew)(p:Ag P .any l.toArray (NoPanic Q) (A7 (Ai a ds) b c) F is)(hend:∀ (v:Nat->Value) (w':World) (L:Nat->Bool),(∀j,L j=true)->(∀i,b i (v i) w')->c L w'->NoPanic Q .normal (Ai a ds v) w'):(au id l.toArray true).wp P Q a w:=by
 subst h k;refine wp_region_noPanic (wp_region_any g ?_);refine Vu (Inv:=A7 (Ai a ds) b c) m (by simpa using p) (fun L a' w' d ⟨v,e,q,r⟩=>by rw[e];exact hend v w' L d (fun i=>q i (d i)) r) _ _ _ _ (CC.start _ _ _) (by simp) (by rw[WZ]) ?_;have:(fun j=>(ap l.toArray.size false).getD j true)=fun j=>decide (l.length<=j):=by
  funext j
  by_cases f:j<l.length
  ·simp[f]
  ·simp[f];omega
 rw[this];exact⟨v0,n,fun i s=>h1 i (by simpa using s),o⟩
theorem Pu:∀(ds:List Nat) (t:Array Value) (k:Nat) (v:Nat->Value),(∀j,j<ds.length->v (k+j)=t.getD (ds.getD j 0) undef)->CL ds v k t=t
 | [],_,_,_,_=>rfl
 | d::ds,t,k,v,h=>by
  have a:v k=t.getD d undef:=by simpa using h 0 (by simp)
  have e:t.setIfInBounds d (v k)=t:=by
   rw[a];by_cases c:d<t.size
   ·refine Array.ext (by simp) fun i h1 f=>?_
    rw[Array.getElem_setIfInBounds];split
    ·rename_i e;subst e;simp
    ·rfl
   ·rw[Array.setIfInBounds_eq_of_size_le (by omega)]
  unfold CL;rw[e];refine Pu ds t (k+1) v fun j b=>?_
  have:=h (j+1) (by simpa using b);rw[show k+(j+1)=k+1+j by omega]at this;simpa using this
theorem Pv(a:Act)(ds:List Nat):a=Ai a ds (fun i=>a.tmps.getD (ds.getD i 0) undef):=by
 unfold Ai;rw[Pu ds a.tmps 0 _ (fun j _=>by rw[aI])]
theorem DK{l:List Oper}(ds:List Nat)(b:Nat->Value->World->Prop)(c:(Nat->Bool)->World->Prop)(F:Nat)(is:List Nat)(d:P.follows .mixedOrders=true)(e:l.length=F)(f:av F=is)(g:Adj .any l.toArray=true)(h1:∀i x W,F<=i->b i x W)(h:c (fun j=>decide (F<=j)) w.drew)(k:Ag P .any l.toArray (NoPanic Q) (A7 (Ai a ds) b c) F is)(hend:∀ (v:Nat->Value) (w':World) (L:Nat->Bool),(∀j,L j=true)->(∀i,b i (v i) w')->c L w'->NoPanic Q .normal (Ai a ds v) w'):(au id l.toArray true).wp P Q a w :=
 N2 ds b c F is d e f g _ (Pv a ds) (fun i m=>h1 i _ _ m) h k hend
theorem Be{l:List Oper}(ds:List Nat)(b:Nat->Value->World->Prop)(c:(Nat->Bool)->World->Prop)(n F:Nat)(is:List Nat)(d:P.follows .mixedOrders=true)(e:l.length=F)(f:av F=is)(g:Yd .any l.toArray n=true)(h1:∀i x W,F<=i->b i x W)(h:c (fun j=>decide (F<=j)) w.drew)(k:Ag P .any l.toArray (NoPanic Q) (A7 (Ai a ds) b c) n is):(au id l.toArray true).wp P Q a w :=
 N1 ds b c n F is d e f g _ (Pv a ds) (fun i m=>h1 i _ _ m) h k
structure Br(p:Prop):Prop where
 out:p
theorem Ag.ad{is:List Nat}(b:List Nat)(d:ops[i]?=aw o)(e:i≠n)(f:Dv md ops i=b)(g:o.guard=none)
  (h:∀(k:Exit->Act->World->Prop) (L:Nat->Bool) (a:Act) (w:World),L i=false->(∀j∈b,L j=true)->Inv L a w->∀K:Act->World->Prop,Shut (∀a' c,Inv (CF L i) a' c->K a' c)->Br (aA P o a w K k))
  (l:Ag P md ops Q Inv n is):Ag P md ops Q Inv n (i::is) :=
 Ag.cons b d e f (fun L a w m h1 p K q=>by
  rw[if_pos (by simp[al,g])];exact(h Q L a w m h1 p K q).out) l
theorem Ag.lastQ(b:List Nat)(d:ops[n]?=aw o)(e:Dv md ops n=b)(f:o.guard=none)
  (h:∀(g:Exit->Act->World->Prop) (L:Nat->Bool) (a:Act) (w:World),L n=false->(∀j∈b,L j=true)->Inv L a w->∀K:Act->World->Prop,Shut (∀a' c,Q .normal a' c->K a' c)->Br (aA P o a w K g)):Ag P md ops Q Inv n [n] :=
 Ag.last b d e (fun L a w i h1 k K l=>by
  rw[if_pos (by simp[al,f])];exact(h Q L a w i h1 k K l).out)
theorem A7.ag{A:(Nat->Value)->Act}{F:Nat->Value->World->Prop}{a:(Nat->Bool)->World->Prop}{L:Nat->Bool}{v:Nat->Value}(h:∀i,L i=true->F i (v i) W)(i:Nat)(x:Value)(c:a'=A (fun j=>if j=i then x else v j))(d:∀j y,L j=true->F j y W->F j y W')(f:F i x W')(g:a (CF L i) W'):A7 A F a (CF L i) a' W':=by
 refine⟨_,c,fun j k=>?_,g⟩;by_cases e:j=i
 ·subst e;simpa using f
 ·simp only[e,if_false];have b:L j=true:=by simpa [CF,e] using k
  exact d j _ b (h j b)
variable {ds:List Nat}{d:Nat}
theorem Ac(a:Act)(x:Value):a.eval (.const x)=x:=rfl
theorem BQ(a:Act)(f:FuncId):a.eval (.func f)=.func (.func f) #[] #[]:=rfl
theorem Pw:∀(ds:List Nat) (v:Nat->Value) (k:Nat) (t:Array Value),(CL ds v k t).size=t.size
 | [],_,_,_=>rfl
 | d::ds,v,k,t=>by unfold CL;rw[Pw];simp
theorem N3:∀(ds:List Nat) (v:Nat->Value) (k:Nat) (t:Array Value) (s:Nat),s ∉ ds->(CL ds v k t).getD s undef=t.getD s undef
 | [],_,_,_,_,_=>rfl
 | d::ds,v,k,t,s,h=>by
  unfold CL;rw[N3 ds v (k+1) _ s (fun e=>h (aO _ e))];have a:d≠s:=fun e=>h (by rw[e];exact aR ..)
  simp[a]
theorem Xa:∀(ds:List Nat) (v:Nat->Value) (k:Nat) (t:Array Value) (j d:Nat),ds.Nodup->ds[j]?=aw d->d<t.size->(CL ds v k t).getD d undef=v (k+j)
 | [],_,_,_,_,_,_,h,_=>by simp at h
 | a::ds,v,k,t,0,d,b,h,c=>by
  have e:a=d:=by simpa using h
  subst e;unfold CL;rw[N3 ds v (k+1) _ a (aF.1 b).1];simp[c]
 | a::ds,v,k,t,j+1,d,b,h,c=>by
  unfold CL;rw[Xa ds v (k+1) _ j d (aF.1 b).2 (by simpa using h) (by simpa using c),show k+1+j=k+(j+1) by omega]
theorem Px:∀(ds:List Nat) (v:Nat->Value) (k:Nat) (t:Array Value) (d:Nat) (x:Value),d ∉ ds->(CL ds v k t).setIfInBounds d x=CL ds v k (t.setIfInBounds d x)
 | [],_,_,_,_,_,_=>rfl
 | a::ds,v,k,t,d,x,h=>by
  unfold CL;have b:a≠d:=fun e=>h (by rw[e];exact aR ..)
  rw[Px ds v (k+1) _ d x (fun e=>h (aO _ e)),ay _ _ b]
theorem Py:∀(ds:List Nat) (v v':Nat->Value) (k:Nat) (t:Array Value),(∀i,k<=i->v i=v' i)->CL ds v k t=CL ds v' k t
 | [],_,_,_,_,_=>rfl
 | d::ds,v,v',k,t,h=>by
  unfold CL;rw[h k (Nat.le_refl _),Py ds v v' (k+1) _ (fun i a=>h i (by omega))]
theorem Tx:∀(ds:List Nat) (v:Nat->Value) (k:Nat) (t:Array Value) (j d:Nat) (x:Value),ds.Nodup->ds[j]?=aw d->(CL ds v k t).setIfInBounds d x=CL ds (fun i=>if i=k+j then x else v i) k t
 | [],_,_,_,_,_,_,_,h=>by simp at h
 | a::ds,v,k,t,0,d,x,b,h=>by
  have e:a=d:=by simpa using h
  subst e;unfold CL;rw[Px ds v (k+1) _ a x (aF.1 b).1,Array.setIfInBounds_setIfInBounds];simp only[Nat.add_zero,if_true];exact Py _ _ _ _ _ (fun i c=>by rw[if_neg (by omega)])
 | a::ds,v,k,t,j+1,d,x,b,h=>by
  unfold CL;rw[Tx ds v (k+1) _ j d x (aF.1 b).2 (by simpa using h)];have e:k≠k+(j+1):=by omega
  simp only[e,if_false];rw[show k+1+j=k+(j+1) by omega]
theorem A1{v:Nat->Value}{s:Nat}(b:s ∉ ds):(Ai a ds v).eval (.tmp s)=a.eval (.tmp s):=N3 ds v 0 a.tmps s b
theorem Aj{v:Nat->Value}(k:Nat)(b:ds.Nodup)(c:ds[k]?=aw d)(e:d<a.tmps.size):(Ai a ds v).eval (.tmp d)=v k:=by
 have:=Xa ds v 0 a.tmps k d b c e;rw[aI]at this;exact this
theorem Ao{v:Nat->Value}(k:Nat){x:Value}(b:ds.Nodup)(c:ds[k]?=aw d):(Ai a ds v).put (aw d) x=Ai a ds (fun j=>if j=k then x else v j):=by
 have:=Tx ds v 0 a.tmps k d x b c;rw[aI]at this;show ({ (Ai a ds v) with tmps:=(Ai a ds v).tmps.setIfInBounds d x }:Act)=_
 unfold Ai;simp only[this]
def CD(R:List PanicEntry->World->Prop)(Q:Exit->Act->World->Prop):Exit->Act->World->Prop
 | .panic c,a,w=>a.defers=[]/\R c w
 | e,a,w=>Q e a w
theorem CD.normal{R:List PanicEntry->World->Prop}(h:Q .normal a w):CD R Q .normal a w:=h
theorem CD.panic{R:List PanicEntry->World->Prop}{c:List PanicEntry}(b:a.defers=[])(h:R c w):CD R Q (.panic c) a w:=⟨b,h⟩
theorem BX{R:List PanicEntry->World->Prop}{S:World->Prop}{l:List Oper}(m:List Bool)(f:Nat)(c:F=f+(Ha m 0).length)(b:(m.length==l.length&&aq l.toArray&&JA md l.toArray listed&&Qg md l.toArray n (Ha m 0) listed)=true)(e:S w)
  (h:D8 P l.toArray S (fun a'=>CV P md l.toArray (CD R Q) S n f (Qh (Ha m 0) listed) a' w) (F1 m l) a):CV P md l.toArray (CD R Q) S n F listed a w:=by
 simp only[ao,beq_iff_eq]at b;obtain⟨⟨⟨h1,g⟩,i⟩,j⟩:=b;subst c;refine JC g (fun d _ _ _ _ h=>by cases d <;> exact h) e (Ha m 0) (F1 m l) f listed a ?_ (KC i) j h
 have:=JB l m l [] rfl h1;simpa using this
theorem C5{R:List PanicEntry->World->Prop}{S:World->Prop}{l:List Oper}(n F:Nat)(b:P.follows .mixedOrders=true)(d:l.length=F)(f:∀c a w,a.defers=[]->R c w->Q (.panic c) a w)(h:CV P .any l.toArray (CD R Q) S n F (ap F false) a w.drew):(au id l.toArray true).wp P Q a w:=by
 subst d;refine Code.wp_mono (fun e a w h=>?_) (wp_region_any b (Gj _ _ _ _ h));cases e <;> first | exact h | exact f _ _ _ h.1 h.2
structure CN(P:Program)(ops:Array Oper)(S:World->Prop)(Q:Act->Prop)(l:List Oper)(a:Act):Prop where
 out:D8 P ops S Q l a
theorem CN.skip{S:World->Prop}{Q:Act->Prop}{rest:List Oper}(b:al o (yielded ops a.tmps)=false)(h:CN P ops S Q rest (a.put o.dst undef)):CN P ops S Q (o::rest) a :=
 ⟨Av (fun K c=>by rw[if_neg (by rw[b];simp)];exact c _ h.out)⟩
theorem CN.step{S:World->Prop}{Q:Act->Prop}{rest:List Oper}(h:∀K:Act->Prop,(∀a,CN P ops S Q rest a->K a)->if al o (yielded ops a.tmps) then ∃v,(∀p:{ w:World // S w },(execOp a.eval o).run P p.1=.ok (.value v) p.1)/\K (a.put o.dst v) else K (a.put o.dst undef)):CN P ops S Q (o::rest) a :=
 ⟨Av (fun K b=>h K (fun a c=>b a c.out))⟩
theorem CN.nil{S:World->Prop}{Q:Act->Prop}(h:Q a):CN P ops S Q [] a:=⟨A4 h⟩
theorem Uy{R:List PanicEntry->World->Prop}{S:World->Prop}{l:List Oper}(m:List Bool)(f:Nat)(b:F=f+(Ha m 0).length)(c:(m.length==l.length&&aq l.toArray&&JA md l.toArray listed&&Qg md l.toArray n (Ha m 0) listed)=true)(d:S w)
  (h:CN P l.toArray S (fun a'=>CV P md l.toArray (CD R Q) S n f (Qh (Ha m 0) listed) a' w) (F1 m l) a):CV P md l.toArray (CD R Q) S n F listed a w :=
 BX m f b c d h.out
