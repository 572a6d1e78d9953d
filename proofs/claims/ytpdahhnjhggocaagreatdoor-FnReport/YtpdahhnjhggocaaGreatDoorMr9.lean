import Derived.Test.YtpdahhnjhggocaaGreatDoorMr8
import Derived.Shelf.Strings.BuilderK
open Go.Region renaming ready->al,wanted->am,Mode->an,binds->ao,noSelect->az,noSelect_spec->aP,free_spec->aR,free->a9
open Bool renaming and_eq_true->ap,false_eq_true->a2,or_eq_true->a7,not_true->bd
open Array renaming replicate->aq,getElem?_eq_getElem->ar,getElem?_eq_some_iff->ax,setIfInBounds_comm->aA,getElem?_eq_none->aK
open Go renaming yielded->au,Program->aB,NoPanic->aD,ready_mono->aF,wpOp_mono->aI,wp_region_noPanic->aL,getD_set_ne->aM,wp_region_any->aN,wpOp_step->aQ,execOp->a3
open List renaming range->av,mem_singleton->aC,mem_range->aH,all_eq_true->aJ,nodup_cons->aO,length_cons->aT,eq_nil_iff_forall_not_mem->aU,mem_cons->aV,getElem?_toArray->aX,mem_cons_of_mem->aY,countP_pos_iff->a0,mem_cons_self->a1,any_eq_true->a5,map_cons->ba
open Option renaming some->aw
open Go.Code renaming region->ay
open Go.Oper renaming wp->aE,upon->a4,quietUpon->a8,quietAt->be
open Go.RowKit.Below renaming refl->aG
open Nat renaming zero_add->aS,add_assoc->aW
open List.cons renaming injEq->aZ
open Ne renaming symm->a6
open Go.Lib renaming IsBuilderF->bb,BuilderAtF->bc
namespace Go.Proofs.YtpdahhnjhggocaaGreatDoor
open Go.RowKit
set_option maxHeartbeats 16000000
set_option maxRecDepth 100000
variable {md:an}{ops:Array Oper}{listed:Array Bool}{i n f fw id B:Nat}{P:aB}{C:World -> Prop}{oi o:Oper}{v:Value}{Q:Exit -> Act -> World -> Prop}{a:Act}{w u:World}{e:TypeId}
def C6(md:an)(ops:Array Oper)(listed:Array Bool):Prop:=∀j a,ops[j]?=aw a->listed.getD j false=true->∀e∈a.after,ao md e=true->listed.getD e.on false=true
theorem C6.start(md:an)(ops:Array Oper)(n:Nat):C6 md ops (aq n false):=by
 intro j b _ a;exfalso;by_cases h:j<n
 ·simp[h]at a
 ·simp[h]at a
theorem C6.step(h:C6 md ops listed)(g:i∈al md ops listed):C6 md ops (listed.setIfInBounds i true):=by
 intro j k a b e c d;obtain⟨_,o,l,m⟩:=mem_ready.1 g;by_cases f:i=j
 ·subst f;rw[l]at a;cases a
  exact getD_set_true (m e c d)
 ·rw[aM false f]at b;exact getD_set_true (h j k a b e c d)
def Fa(md:an)(ops:Array Oper):Nat->Nat->Nat->Bool
 | 0,_,_=>false
 | f+1,n,i=>match ops[n]? with
  | none=>false
  | some o=>o.after.toList.any fun e=>ao md e&&(e.on==i || Fa md ops f e.on i)
theorem Sq{md:an}{ops:Array Oper}{listed:Array Bool}(h:C6 md ops listed){i:Nat}(b:listed.getD i false=false):∀(f n:Nat),Fa md ops f n i=true->∃o,ops[n]?=aw o/\∃e∈o.after,ao md e=true/\listed.getD e.on false=false
 | 0,_,e=>by cases e
 | f+1,n,e=>by
  unfold Fa at e;cases c:ops[n]? with
  | none=>rw[c]at e;cases e
  | some o =>
   rw[c]at e;simp only[a5,ap,a7,beq_iff_eq]at e;obtain⟨x,d,g,a⟩:=e;refine⟨o,rfl,x,by simpa using d,g,?_⟩;rcases a with a|a
   ·rw[a];exact b
   ·obtain⟨j,k,y,l,m,p⟩:=Sq h b f x.on a;cases q:listed.getD x.on false with
    | false=>rfl
    | true =>
     have:=h x.on j k q y l m;rw[p]at this;cases this
theorem Fw(c:i∈al md ops listed):listed.getD i false=false:=by
 have a:=(mem_ready.1 c).1;rcases Nat.lt_or_ge i listed.size with b|b
 ·simp[b]at a⊢;exact a
 ·simp[aK b]at a
theorem Ke(h:C6 md ops listed)(c:i∈al md ops listed)(d:Fa md ops f n i=true):n ∉ al md ops listed:=by
 intro g;obtain⟨o,j,e,k,l,a⟩:=Sq h (Fw c) f n d;obtain⟨_,p,b,m⟩:=mem_ready.1 g;rw[j]at b;cases b
 rw[m e k l]at a;cases a
def Mu(P:aB)(md:an)(ops:Array Oper)(C:World->Prop)(n:Nat)(Q:Act->Prop):Nat->Array Bool->Act->Prop
 | 0,_,_=>False
 | f+1,listed,a=>(al md ops listed=[n]/\al md ops (listed.setIfInBounds n true)=[]/\Q a)\/(n ∉ al md ops listed/\al md ops listed≠[]/\∀i∈al md ops listed,qOp P ops C i (Mu P md ops C n Q f (listed.setIfInBounds i true)) a)
theorem Mv{P:aB}{md:an}{ops:Array Oper}{C:World->Prop}{n:Nat}{Q:Act->Prop}{e:Exit->Act->World->Prop}(k:∀a w,C w->Q a->wpOp P ops e n (fun a w=>e .normal a w) a w):∀(f:Nat) (listed:Array Bool) (a:Act) (w:World),C w->Mu P md ops C n Q f listed a->wpAny P md ops e f listed a w
 | 0,_,_,_,_,h=>h.elim
 | f+1,listed,a,w,l,h=>by
  rcases h with ⟨h1,b,g⟩|⟨h1,b,g⟩
  ·refine⟨fun c=>(by rw[h1]at c;cases c),fun i d=>?_⟩;rw[h1,aC]at d;subst d;refine aI (fun a w m=>?_) (k a w l g);cases f with
   | zero=>exact⟨b,m⟩
   | succ f=>exact⟨fun _=>m,fun j o=>by rw[b]at o;cases o⟩
  ·exact⟨fun c=>absurd c b,fun i d=>wpOp_of_qOp l (fun a' w' p h=>Mv k f _ a' w' p h) (g i d)⟩
theorem Pq{Q:Act->Prop}(r:ops[i]?=aw oi)(s:∀ (j:Nat) (o:Oper) cs b,ops[j]?=aw o->o.op≠.select cs b)(D:Fa md ops fw n i=true):
  ∀(d:Nat) (listed:Array Bool) (a:Act),C6 md ops listed ->
   (∀j c,ops[j]?=aw c->j≠i->listed.getD j true=false->(∀e∈c.after,ao md e=true->e.on≠i)->oi.apart ops c=true) ->
   i∈al md ops listed->YieldsIn P ops C oi v a ->
   Mu P md ops C n Q d (listed.setIfInBounds i true) (a.put oi.dst v)->Mu P md ops C n Q (d+1) listed a:=by
 intro d
 induction d with
 | zero=>intro listed a _ _ _ _ l;exact l.elim
 | succ d E =>
  intro listed a t u f w l;have x:=Ke t f D;refine .inr ⟨x,fun h=>(by rw[h]at f;cases f),fun j m=>?_⟩;by_cases g:j=i
  ·subst g;exact w.qOp r l
  ·have p:=aF (i:=i) m g;rcases l with ⟨F,_,_⟩|⟨_,_,G⟩
   ·rw[F,aC]at p;exact absurd (p▸m) x
   have h1:=G j p;obtain⟨y,c,q,H⟩:=mem_ready.1 m;have I:∀e∈c.after,ao md e=true->e.on≠i:=fun e J K L=>by
    have h1:=H e J K;rw[L,Fw f]at h1;cases h1
   have M:=qOp_put q (u j c q g y I) (fun cs b=>s i oi cs b r) (fun cs b=>s j c cs b q) w h1
   have N:∀k ok,ops[k]?=aw ok->k≠i->(listed.setIfInBounds j true).getD k true=false ->
     (∀e∈ok.after,ao md e=true->e.on≠i)->oi.apart ops ok=true:=fun k ok O R z S=>by
    refine u k ok O R ?_ S;by_cases A:j=k
    ·subst A;exact y
    ·rw[aM true A]at z;exact z
   refine qOp_mono (fun a' B=>E (listed.setIfInBounds j true) a' (t.step m) N (aF f (a6 g)) B.1 ?_) M;rw[aA _ _ g];exact B.2
def YE(md:an)(ops:Array Oper)(n:Nat):Nat->Nat->Array Bool->Bool
 | 0,_,listed=>(al md ops listed==[n])&&(al md ops (listed.setIfInBounds n true)).isEmpty
 | f+1,k,listed=>(al md ops listed).contains k&&a9 md ops listed k&&Fa md ops 40 n k&&YE md ops n f (k+1) (listed.setIfInBounds k true)
theorem Mw{P:aB}{md:an}{ops:Array Oper}{C:World->Prop}{n:Nat}{Q:Act->Prop}(d:az ops=true):∀(l:List Oper) (k:Nat) (listed:Array Bool) (a:Act),(∀j o,l[j]?=aw o->ops[k+j]?=aw o) ->
  C6 md ops listed->YE md ops n l.length k listed=true->wpQuiet P ops C Q l a->Mu P md ops C n Q (l.length+1) listed a
 | [],_,_,_,_,_,b,h=>by
  simp only[List.length_nil,YE,ap,beq_iff_eq,List.isEmpty_iff]at b;exact .inl ⟨b.1,b.2,h⟩
 | o::l,k,listed,a,e,f,b,h=>by
  have c:ops[k]?=aw o:=by simpa using e 0 o rfl
  simp only[aT,YE,ap]at b;obtain⟨⟨⟨i,m⟩,p⟩,q⟩:=b;have g:k∈al md ops listed:=by simpa using i
  have r:qOp P ops C k (wpQuiet P ops C Q l) a:=by unfold qOp;simp only[c];exact h
  obtain⟨v,s,t⟩:=yieldsIn_of_qOp c r
  exact Pq c (aP d) p (l.length+1) listed a f (aR c m) g s
   (Mw d l (k+1) _ _ (fun j x u=>by have:=e (j+1) x (by simpa using u);simpa [aW,Nat.add_comm 1 j] using this) (f.step g) q t)
theorem Fb{l:List Oper}(n:Nat)(f:P.follows .mixedOrders=true)(g:l[n]?=aw o)(i:l.length=n+1)(c:(az l.toArray&&YE .any l.toArray n n 0 (aq (n+1) false))=true)
  (h:wpQuiet P l.toArray (fun w'=>∃p:Gr w,w'=p.u) (fun a'=>∀p:Gr w,∀K:Act->World->Prop,(∀a w,Q .normal a w->K a w)->if am o (au l.toArray a'.tmps)=true then aE P o a' p.u K Q else K (a'.put o.dst undef) p.u) (l.take n) a):(ay id l.toArray true).wp P Q a w:=by
 rw[ap]at c;have e:(l.take n).length=n:=by rw[List.length_take];omega
 refine aN f ?_;have k:l.toArray.size=n+1:=by simpa using i
 rw[k];refine Mv (C:=fun w'=>∃p:Gr w,w'=p.u) (n:=n) (Q:=fun a'=>∀p:Gr w,∀K:Act->World->Prop,(∀a w,Q .normal a w->K a w)->if am o (au l.toArray a'.tmps)=true then aE P o a' p.u K Q else K (a'.put o.dst undef) p.u) ?_ _ _ _ _ ⟨⟨w.drew,(aG _ _).drew⟩,rfl⟩ ?_
 ·rintro a' w' ⟨p,rfl⟩ m;have:=m p (fun a w=>Q .normal a w) (fun _ _ h=>h);unfold wpOp;rw[aX,g];simp only;split
  ·rename_i d;rw[if_pos d]at this;exact .inl this
  ·rename_i d;rw[if_neg d]at this;exact this
 ·have:=Mw (C:=fun w'=>∃p:Gr w,w'=p.u) (n:=n) c.1 (l.take n) 0 (aq (n+1) false) a (fun j x b=>by
   rw[aS,aX];rw[List.getElem?_take]at b;split at b
   ·exact b
   ·cases b) (C6.start _ _ _) (by rw[e];exact c.2) h
  rw[e]at this;exact this
theorem VP{T:TypeId}{b:Nat}{bs:List Value}(h:bb T e B b bs w)(f:Below w.heap.size w u):bb T e B b bs u:=by
 have key:∀p,bc T e B b p bs w->bc T e B b p bs u:=by
  rintro p ⟨h1,v,i,a,j⟩;have c:∀(k:Nat) (o:Obj),w.heap[k]?=aw o->u.heap[k]?=aw o:=by
   intro k o d;have l:k<w.heap.size:=(ax.1 d).1;rw[f.block k l];exact d
  refine⟨h1,v,c _ _ i,?_,j⟩;refine⟨a.1,?_⟩;rcases a.2 with h|⟨g,m,n,q,s,t,x,r⟩
  ·exact .inl h
  ·exact .inr ⟨g,m,n,q,s,t,c _ _ x,r⟩
 rcases h with h|h
 ·exact .inl (key _ h)
 ·exact .inr (key _ h)
variable {a':Act}{w':World}{K:Act -> World -> Prop}{j:Nat}{rs:List Nat}{α:Type}
def CR(P:aB)(ops:Array Oper)(w:World)(o:Oper)(v:Value)(a:Act):Prop :=
 (am o (au ops a.tmps)=true/\∀p:Gr w,o.quietAt P a (fun u=>Below p.u.heap.size p.u u) p.u v)\/(am o (au ops a.tmps)=false/\v=undef)
theorem CR.same(b:CR P ops w o v a)(c:a3 a'.eval o=a3 a.eval o)(d:am o (au ops a'.tmps)=am o (au ops a.tmps)):CR P ops w o v a':=by
 unfold CR be at *;rw[c,d];exact b
theorem CR.up(c:CR P ops w o v a)(b:Below w.heap.size w w'):CR P ops w' o v a :=
 c.imp (fun⟨h1,d⟩=>⟨h1,fun p=>d ⟨p.u,b.trans (p.h.mono b.size)⟩⟩) id
theorem CR.wpOp(d:ops[i]?=aw o)(g:CR P ops w o v a)(p:Gr w)(h:∀u,Below p.u.heap.size p.u u->K (a.put o.dst v) u):wpOp P ops Q i K a p.u:=by
 unfold Go.wpOp;simp only[d];rcases g with ⟨c,j⟩|⟨c,rfl⟩
 ·simp only[c,if_true];refine .inl ?_;have b:=j p;unfold be at b;unfold aE;generalize (a3 a.eval o).run P p.u=r at *;cases r with
  | ok n w' =>
   cases n <;> simp only[a8]at b <;> simp only[a4]
   case value x=>obtain⟨rfl,rfl⟩:=b;exact h _ (aG _ _)
   case skip=>obtain⟨rfl,rfl⟩:=b;exact h _ (aG _ _)
   case enter f args =>
    obtain⟨rfl,k⟩:=b;exact k.mono fun e q ⟨l,m⟩=>by subst l;exact h _ m
  | halt x w'=>simp only[a8]at b
 ·simp only[c,a2,if_false];exact h _ (aG _ _)
theorem UE{g:Oper}(k:ops[j]?=aw g)(h:wpOp P ops Q j K a w):wpOp P ops Q j (fun a' w'=>(∃u d,a'=({ a with defers:=d }:Act).put g.dst u)/\K a' w') a w:=by
 unfold wpOp at *;simp only[k]at *;split
 ·rename_i i;simp only[i,if_true]at h;rcases h with h|h
  case inr=>exact .inr h
  refine .inl ?_;unfold aE at *;generalize (a3 a.eval g).run P w=r at *;cases r with
  | ok n w' =>
   cases n <;> simp only[a4]at h⊢
   case value u=>exact⟨⟨u,a.defers,rfl⟩,h⟩
   case skip=>exact⟨⟨undef,a.defers,rfl⟩,h⟩
   case defer d=>exact⟨⟨undef,d::a.defers,rfl⟩,h⟩
   case enter f args =>
    refine Calls.mono h fun e l b=>?_
    cases e with
    | returned u=>exact⟨⟨u,a.defers,rfl⟩,b⟩
    | panicked c=>exact b
    | outgrown=>exact b
   case row row args=>exact Rows.mono h fun u l b=>⟨⟨u,a.defers,rfl⟩,b⟩
  | halt x w'=>cases x <;> simp only[a4]at h⊢ <;> exact h
 ·rename_i i;simp only[i]at h;exact⟨⟨undef,a.defers,rfl⟩,h⟩
def GP(P:aB)(md:an)(ops:Array Oper)(Q:Exit->Act->World->Prop)(n:Nat):Nat->Array Bool->Act->World->Prop
 | 0,listed,a,w=>al md ops listed=[]/\∀p:Gr w,Q .normal a p.u
 | f+1,listed,a,w=>∀p:Gr w,(al md ops listed=[]->Q .normal a p.u)/\∀i∈al md ops listed,wpOp P ops Q i (fun a' u=>(i=n/\al md ops (listed.setIfInBounds n true)=[]/\Q .normal a' u)\/(i≠n/\Below p.u.heap.size p.u u/\GP P md ops Q n f (listed.setIfInBounds i true) a' u)) a p.u
theorem Kh:∀ {f:Nat} {listed:Array Bool} {a:Act} {w w':World},Below w.heap.size w w'->GP P md ops Q n f listed a w->GP P md ops Q n f listed a w'
 | 0,_,_,_,_,b,h=>⟨h.1,fun p=>h.2 ⟨p.u,b.trans (p.h.mono b.size)⟩⟩
 | _+1,_,_,_,_,b,h=>fun p=>h ⟨p.u,b.trans (p.h.mono b.size)⟩
theorem KD{P:aB}{md:an}{ops:Array Oper}{Q:Exit->Act->World->Prop}{n:Nat}:∀(f:Nat) (listed:Array Bool) (a:Act) (w:World),GP P md ops Q n f listed a w->wpAny P md ops Q f listed a w
 | 0,_,_,w,h=>⟨h.1,h.2 ⟨w,aG _ _⟩⟩
 | f+1,listed,a,w,h=>by
  have h1:=h ⟨w,aG _ _⟩;refine⟨h1.1,fun i g=>aI (fun a' u b=>?_) (h1.2 i g)⟩;rcases b with ⟨rfl,c,d⟩|⟨_,_,b⟩
  ·cases f with
   | zero=>exact⟨c,d⟩
   | succ f=>exact⟨fun _=>d,fun j e=>by rw[c]at e;cases e⟩
  ·exact KD f _ a' u b
theorem UF(z:ops[i]?=aw oi)(C:∀ (j:Nat) (o:Oper) cs b,ops[j]?=aw o->o.op≠.select cs b)(O:Fa md ops fw n i=true\/ops.size<=n)
  (R:∀c a w,Q (.panic c) (a.put oi.dst v) w->Q (.panic c) a w) :
  ∀(r:Nat) (listed:Array Bool) (a:Act) (w:World),C6 md ops listed ->
   (∀j g,ops[j]?=aw g->j≠i->listed.getD j true=false->(∀e∈g.after,ao md e=true->e.on≠i)->oi.apart ops g=true) ->
   i∈al md ops listed->CR P ops w oi v a ->
   GP P md ops Q n r (listed.setIfInBounds i true) (a.put oi.dst v) w->GP P md ops Q n (r+1) listed a w:=by
 have D:∀listed:Array Bool,C6 md ops listed->i∈al md ops listed->n ∉ al md ops listed:=by
  intro listed m f F;rcases O with E|E
  ·exact Ke m f E F
  ·obtain⟨_,o,G,_⟩:=mem_ready.1 F;rw[aK E]at G;cases G
 intro r
 induction r with
 | zero =>
  intro listed a w m _ f s t p;refine⟨fun h=>(by rw[h]at f;cases f),fun j q=>?_⟩;by_cases l:j=i
  ·subst l;exact s.wpOp z p fun u y=>.inr ⟨fun e=>D listed m f (e▸f),y,Kh (p.h.trans (y.mono p.h.size)) t⟩
  ·have:=aF q l;rw[t.1]at this;cases this
 | succ r T =>
  intro listed a w m H f s t p;refine⟨fun h=>(by rw[h]at f;cases f),fun j q=>?_⟩;by_cases l:j=i
  ·subst l;exact s.wpOp z p fun u y=>.inr ⟨fun e=>D listed m f (e▸f),y,Kh (p.h.trans (y.mono p.h.size)) t⟩
  ·have h1:=(t p).2 j (aF q l);obtain⟨I,g,A,U⟩:=mem_ready.1 q;have J:j≠n:=fun e=>D listed m f (e▸q)
   have V:∀e∈g.after,ao md e=true->e.on≠i:=fun e W B X=>by
    have h1:=U e W B;rw[X,Fw f]at h1;cases h1
   have K:=H j g A l I V;obtain⟨ai,aj,L⟩:=Oper.apart_spec K;have Y:=wpOp_putIf (S:=fun _=>False) A K (fun cs b=>C i oi cs b z) (fun cs b=>C j g cs b A) R (s.imp (fun h=>⟨h.1,fun _ Z=>Z.elim⟩) id) h1
   have aa:∀k ok,ops[k]?=aw ok->k≠i->(listed.setIfInBounds j true).getD k true=false ->
     (∀e∈ok.after,ao md e=true->e.on≠i)->oi.apart ops ok=true:=fun k ok ab ac M ad=>by
    refine H k ok ab ac ?_ ad;by_cases N:j=k
    ·subst N;exact I
    ·rw[aM true N]at M;exact M
   refine aI (fun a' u ae=>?_) (UE A Y);obtain⟨⟨x,d,rfl⟩,_,af⟩:=ae;rcases af with ⟨e,_⟩|⟨_,B,ag⟩
   ·exact absurd e J
   ·refine .inr ⟨J,B,T (listed.setIfInBounds j true) _ u (m.step q) aa (aF f (a6 l)) ?_ ?_⟩
    ·have ah:CR P ops w oi v { a with defers:=d }:=s.same rfl rfl;exact(ah.same (execOp_put oi (fun cs b=>C i oi cs b z) _ g.dst x L) (wanted_put oi _ g.dst x L)).up (p.h.trans (B.mono p.h.size))
    ·rw[aA _ _ l];exact ag
def DY(P:aB)(ops:Array Oper)(w:World)(Q:Act->Prop):List Oper->Act->Prop
 | [],a=>Q a
 | o::rest,a=>if am o (au ops a.tmps) then ∃v,(∀p:Gr w,o.quietAt P a (fun u=>Below p.u.heap.size p.u u) p.u v)/\DY P ops w Q rest (a.put o.dst v) else DY P ops w Q rest (a.put o.dst undef)
theorem Bt{Q:Act->Prop}{rest:List Oper}(h:∀K:Act->Prop,(∀a,DY P ops w Q rest a->K a)->if am o (au ops a.tmps) then ∃v,(∀p:Gr w,o.quietAt P a (fun u=>Below p.u.heap.size p.u u) p.u v)/\K (a.put o.dst v) else K (a.put o.dst undef)):DY P ops w Q (o::rest) a:=h _ (fun _ h=>h)
theorem Cq{Q:Act->Prop}(h:Q a):DY P ops w Q [] a:=h
def UG(md:an)(ops:Array Oper)(n:Nat):List Nat->Array Bool->Bool
 | [],_=>true
 | k::ks,listed=>(al md ops listed).contains k&&a9 md ops listed k&&(Fa md ops 40 n k || ops.size<=n)&&UG md ops n ks (listed.setIfInBounds k true)
def UH:List Nat->Array Bool->Array Bool
 | [],listed=>listed
 | k::ks,listed=>UH ks (listed.setIfInBounds k true)
theorem UI(p:az ops=true)(q:∀ (d:Option Tmp) v c a w,Q (.panic c) (a.put d v) w->Q (.panic c) a w)(ks:List Nat):∀(l:List Oper) (f:Nat) (listed:Array Bool) (a:Act),ks.map (fun k=>ops[k]?)=l.map aw->C6 md ops listed->UG md ops n ks listed=true->DY P ops w (fun a'=>GP P md ops Q n f (UH ks listed) a' w) l a->GP P md ops Q n (f+ks.length) listed a w:=by
 induction ks with
 | nil =>
  intro l f listed a b _ _ h;cases l with
  | nil=>exact h
  | cons o l=>simp at b
 | cons k ks r =>
  intro l f listed a b i j h;cases l with
  | nil=>simp at b
  | cons o l =>
   simp only[ba,aZ]at b;simp only[UG,ap]at j;obtain⟨⟨⟨s,t⟩,u⟩,x⟩:=j;have m:k∈al md ops listed:=by simpa using s
   have y:Fa md ops 40 n k=true\/ops.size<=n:=by simpa using u
   obtain⟨v,z,g⟩:∃v,CR P ops w o v a/\DY P ops w (fun a'=>GP P md ops Q n f (UH ks (listed.setIfInBounds k true)) a' w) l (a.put o.dst v):=by
    unfold DY at h;by_cases e:am o (au ops a.tmps)=true
    ·rw[if_pos e]at h;obtain⟨v,A,g⟩:=h;exact⟨v,.inl ⟨e,A⟩,g⟩
    ·rw[if_neg e]at h;exact⟨undef,.inr ⟨by simpa using e,rfl⟩,h⟩
   have h1:=r l f (listed.setIfInBounds k true) (a.put o.dst v) b.2 (i.step m) x g;rw[aT,<-aW];exact UF b.1 (aP p) y (fun c a w=>q o.dst v c a w) (f+ks.length) listed a w i (aR b.1 t) m z h1
theorem P0(n:Nat)(b:P.follows .mixedOrders=true)(h:GP P .any ops Q n ops.size (aq ops.size false) a w):(ay id ops true).wp P Q a w :=
 aN b (KD _ _ _ _ (Kh ((aG _ _).drew) h))
def Ed(P:aB)(md:an)(ops:Array Oper)(Q:Exit->Act->World->Prop)(n f:Nat)(listed:Array Bool)(a:Act)(u:World)(rs:List Nat):Prop:=∀i∈rs,wpOp P ops Q i (fun a' b=>(i=n/\al md ops (listed.setIfInBounds n true)=[]/\Q .normal a' b)\/(i≠n/\Below u.heap.size u b/\GP P md ops Q n f (listed.setIfInBounds i true) a' b)) a u
theorem Ed.nil:Ed P md ops Q n f listed a u []:=fun _ h=>by cases h
theorem Ed.cons(d:ops[i]?=aw o)(e:i≠n)
  (h:∀K:Act->World->Prop,Shut (∀a' b,Below u.heap.size u b->GP P md ops Q n f (listed.setIfInBounds i true) a' b->K a' b)->if am o (au ops a.tmps)=true then aE P o a u K Q else K (a.put o.dst undef) u)
  (g:Ed P md ops Q n f listed a u rs):Ed P md ops Q n f listed a u (i::rs):=fun j c=>by
 rcases aV.1 c with rfl|c
 ·exact aQ d (fun K k=>h K (fun a' b l m=>k a' b (.inr ⟨e,l,m⟩)))
 ·exact g j c
theorem DN(b:al md ops listed=rs)(c:rs≠[])(h:∀p:Gr w,Ed P md ops Q n f listed a p.u rs):GP P md ops Q n (f+1) listed a w:=fun p=>⟨fun d=>absurd (b▸d) c,b▸h p⟩
theorem H7(c:al md ops listed=[n])(g:ops[n]?=aw o)(j:al md ops (listed.setIfInBounds n true)=[])
  (h:∀p:Gr w,∀K:Act->World->Prop,Shut (∀a' b,Q .normal a' b->K a' b)->if am o (au ops a.tmps)=true then aE P o a p.u K Q else K (a.put o.dst undef) p.u):GP P md ops Q n (f+1) listed a w:=fun p =>
 ⟨fun d=>(by rw[c]at d;cases d),fun i e=>by
   rw[c,aC]at e;subst e;exact aQ g (fun K k=>h p K (fun a' b l=>k a' b (.inl ⟨rfl,j,l⟩)))⟩
theorem OE(b:al md ops listed=[])(h:∀p:Gr w,Q .normal a p.u):∀f,GP P md ops Q n f listed a w
 | 0=>⟨b,h⟩
 | _+1=>fun p=>⟨fun _=>h p,by rw[b];simp⟩
def P1(md:an)(ops:Array Oper)(listed:Array Bool):Bool:=(av ops.size).all fun j=>match ops[j]? with
 | none=>true
 | some a=>!(listed.getD j false) || a.after.toList.all (fun e=>!(ao md e) || listed.getD e.on false)
theorem OF(h:P1 md ops listed=true):C6 md ops listed:=by
 intro j g a b e c d;have f:j<ops.size:=(ax.1 a).1;have:=aJ.1 h j (aH.2 f);rw[a]at this;simp only[b,bd,Bool.false_or]at this;have:=aJ.1 this e (by simpa using c);simpa [d] using this
def GJ{α:Type}:List Bool->List α->List α
 | true::m,o::l=>o::GJ m l
 | false::m,_::l=>GJ m l
 | _,_=>[]
theorem AZ(m:List Bool)(o:α)(l:List α):GJ (true::m) (o::l)=o::GJ m l:=rfl
theorem Bc(m:List Bool)(o:α)(l:List α):GJ (false::m) (o::l)=GJ m l:=rfl
theorem AX(l:List α):GJ [] l=[]:=by cases l <;> rfl
def MF:List Bool->Nat->List Nat
 | [],_=>[]
 | true::m,k=>k::MF m (k+1)
 | false::m,k=>MF m (k+1)
theorem MG{α:Type}(A:List α):∀(m:List Bool) (l C:List α),A=C++l->m.length=l.length->(MF m C.length).map (fun k=>A[k]?)=(GJ m l).map aw
 | [],l,C,_,a=>by
  rw[AX];rfl
 | b::m,[],C,_,a=>by simp at a
 | b::m,o::l,C,d,a=>by
  have c:=MG A m l (C++[o]) (by rw[d];simp) (by simpa using a);rw[List.length_append,List.length_singleton]at c;cases b with
  | false=>exact c
  | true =>
   show A[C.length]?::_=aw o::_
   rw[c,d];simp
theorem Dr{F:Nat}{l:List Oper}(m:List Bool)(f:Nat)(c:F=f+(MF m 0).length)(b:(m.length==l.length&&az l.toArray&&P1 md l.toArray listed&&UG md l.toArray n (MF m 0) listed)=true)
  (h:DY P l.toArray w (fun a'=>GP P md l.toArray (aD Q) n f (UH (MF m 0) listed) a' w) (GJ m l) a):GP P md l.toArray (aD Q) n F listed a w:=by
 simp only[ap,beq_iff_eq]at b;obtain⟨⟨⟨h1,d⟩,e⟩,g⟩:=b;subst c;refine UI d (fun _ _ _ _ _ h=>h) (MF m 0) (GJ m l) f listed a ?_ (OF e) g h;have:=MG l m l [] rfl h1;simpa using this
theorem CV{l:List Oper}(n F:Nat)(b:P.follows .mixedOrders=true)(c:l.length=F)(h:GP P .any l.toArray (aD Q) n F (aq F false) a w):(ay id l.toArray true).wp P Q a w:=by
 subst c;exact aL (P0 n b h)
def Dv(P:aB)(md:an)(ops:Array Oper)(Q:Exit->Act->World->Prop)(S:World->Prop)(n:Nat):Nat->Array Bool->Act->World->Prop
 | 0,listed,a,w=>al md ops listed=[]/\Q .normal a w
 | f+1,listed,a,w=>(al md ops listed=[]->Q .normal a w)/\∀i∈al md ops listed,wpOp P ops Q i (fun a' u=>(i=n/\al md ops (listed.setIfInBounds n true)=[]/\Q .normal a' u)\/(i≠n/\S u/\Dv P md ops Q S n f (listed.setIfInBounds i true) a' u)) a w
theorem Iw{P:aB}{md:an}{ops:Array Oper}{Q:Exit->Act->World->Prop}{S:World->Prop}{n:Nat}:∀(f:Nat) (listed:Array Bool) (a:Act) (w:World),Dv P md ops Q S n f listed a w->wpAny P md ops Q f listed a w
 | 0,_,_,_,h=>h
 | f+1,listed,a,w,h=>by
  refine⟨h.1,fun i g=>aI (fun a' u b=>?_) (h.2 i g)⟩;rcases b with ⟨rfl,c,d⟩|⟨_,_,b⟩
  ·cases f with
   | zero=>exact⟨c,d⟩
   | succ f=>exact⟨fun _=>d,fun j e=>by rw[c]at e;cases e⟩
  ·exact Iw f _ a' u b
theorem IM{P:aB}{md:an}{ops:Array Oper}{Q:Exit->Act->World->Prop}{S S':World->Prop}{n:Nat}(b:∀u,S' u->S u):∀ {f:Nat} {listed:Array Bool} {a:Act} {w:World},Dv P md ops Q S' n f listed a w->Dv P md ops Q S n f listed a w
 | 0,_,_,_,h=>h
 | _+1,_,_,_,h=>⟨h.1,fun i c=>aI (fun _ u d=>d.imp id (fun q=>⟨q.1,b u q.2.1,IM b q.2.2⟩)) (h.2 i c)⟩
theorem P2{S:World->Prop}(x:ops[i]?=aw oi)(C:∀ (j:Nat) (o:Oper) cs b,ops[j]?=aw o->o.op≠.select cs b)(K:Fa md ops fw n i=true\/ops.size<=n)
  (L:∀c a w,Q (.panic c) (a.put oi.dst v) w->Q (.panic c) a w) :
  ∀(p:Nat) (listed:Array Bool) (a:Act) (w:World),C6 md ops listed ->
   (∀j g,ops[j]?=aw g->j≠i->listed.getD j true=false->(∀e∈g.after,ao md e=true->e.on≠i)->oi.apart ops g=true) ->
   i∈al md ops listed->YieldsIf P ops S oi v a->S w ->
   Dv P md ops Q S n p (listed.setIfInBounds i true) (a.put oi.dst v) w->Dv P md ops Q S n (p+1) listed a w:=by
 have y:∀listed:Array Bool,C6 md ops listed->i∈al md ops listed->n ∉ al md ops listed:=by
  intro listed l d D;rcases K with z|z
  ·exact Ke l d z D
  ·obtain⟨_,o,E,_⟩:=mem_ready.1 D;rw[aK z]at E;cases E
 intro p
 induction p with
 | zero =>
  intro listed a w l _ d s q r;refine⟨fun h=>(by rw[h]at d;cases d),fun j m=>?_⟩;by_cases f:j=i
  ·subst f;exact s.wpOp x q (.inr ⟨fun e=>y listed l d (e▸d),q,r⟩)
  ·have:=aF m f;rw[r.1]at this;cases this
 | succ p M =>
  intro listed a w l F d s q r;refine⟨fun h=>(by rw[h]at d;cases d),fun j m=>?_⟩;by_cases f:j=i
  ·subst f;exact s.wpOp x q (.inr ⟨fun e=>y listed l d (e▸d),q,r⟩)
  ·have h1:=r.2 j (aF m f);obtain⟨G,g,A,N⟩:=mem_ready.1 m;have H:j≠n:=fun e=>y listed l d (e▸m)
   have O:∀e∈g.after,ao md e=true->e.on≠i:=fun e R t T=>by
    have h1:=N e R t;rw[T,Fw d]at h1;cases h1
   have U:=F j g A f G O;have V:=wpOp_putIf A U (fun cs b=>C i oi cs b x) (fun cs b=>C j g cs b A) L s h1
   have W:∀k ok,ops[k]?=aw ok->k≠i->(listed.setIfInBounds j true).getD k true=false ->
     (∀e∈ok.after,ao md e=true->e.on≠i)->oi.apart ops ok=true:=fun k ok X Y I Z=>by
    refine F k ok X Y ?_ Z;by_cases J:j=k
    ·subst J;exact G
    ·rw[aM true J]at I;exact I
   refine aI (fun a' u B=>?_) V;obtain⟨B,aa⟩:=B;rcases aa with ⟨e,_⟩|⟨_,t,ab⟩
   ·exact absurd e H
   ·refine .inr ⟨H,t,M (listed.setIfInBounds j true) _ u (l.step m) W (aF d (a6 f)) B t ?_⟩;rw[aA _ _ f];exact ab
def EI(P:aB)(ops:Array Oper)(S:World->Prop)(Q:Act->Prop):List Oper->Act->Prop
 | [],a=>Q a
 | o::rest,a=>if am o (au ops a.tmps) then ∃v,(∀p:{ w:World // S w },(a3 a.eval o).run P p.1=.ok (.value v) p.1)/\EI P ops S Q rest (a.put o.dst v) else EI P ops S Q rest (a.put o.dst undef)
theorem A2{S:World->Prop}{Q:Act->Prop}{rest:List Oper}(h:∀K:Act->Prop,(∀a,EI P ops S Q rest a->K a)->if am o (au ops a.tmps) then ∃v,(∀p:{ w:World // S w },(a3 a.eval o).run P p.1=.ok (.value v) p.1)/\K (a.put o.dst v) else K (a.put o.dst undef)):EI P ops S Q (o::rest) a:=h _ (fun _ h=>h)
theorem A8{S:World->Prop}{Q:Act->Prop}(h:Q a):EI P ops S Q [] a:=h
theorem P4{S:World->Prop}(q:az ops=true)(r:∀ (d:Option Tmp) v c a w,Q (.panic c) (a.put d v) w->Q (.panic c) a w)(s:S w)(ks:List Nat):∀(l:List Oper) (f:Nat) (listed:Array Bool) (a:Act),ks.map (fun k=>ops[k]?)=l.map aw->C6 md ops listed->UG md ops n ks listed=true->EI P ops S (fun a'=>Dv P md ops Q S n f (UH ks listed) a' w) l a->Dv P md ops Q S n (f+ks.length) listed a w:=by
 induction ks with
 | nil =>
  intro l f listed a b _ _ h;cases l with
  | nil=>exact h
  | cons o l=>simp at b
 | cons k ks t =>
  intro l f listed a b j m h;cases l with
  | nil=>simp at b
  | cons o l =>
   simp only[ba,aZ]at b;simp only[UG,ap]at m;obtain⟨⟨⟨u,x⟩,g⟩,y⟩:=m;have p:k∈al md ops listed:=by simpa using u
   have z:Fa md ops 40 n k=true\/ops.size<=n:=by simpa using g
   obtain⟨v,A,i⟩:∃v,YieldsIf P ops S o v a/\EI P ops S (fun a'=>Dv P md ops Q S n f (UH ks (listed.setIfInBounds k true)) a' w) l (a.put o.dst v):=by
    unfold EI at h;by_cases e:am o (au ops a.tmps)=true
    ·rw[if_pos e]at h;obtain⟨v,B,i⟩:=h;exact⟨v,.inl ⟨e,fun w g=>B ⟨w,g⟩⟩,i⟩
    ·rw[if_neg e]at h;exact⟨undef,.inr ⟨by simpa using e,rfl⟩,h⟩
   have h1:=t l f (listed.setIfInBounds k true) (a.put o.dst v) b.2 (j.step p) y i;rw[aT,<-aW];exact P2 b.1 (aP q) z (fun c a w=>r o.dst v c a w) (f+ks.length) listed a w j (aR b.1 x) p A s h1
theorem A9{S:World->Prop}{F:Nat}{l:List Oper}(m:List Bool)(f:Nat)(c:F=f+(MF m 0).length)(b:(m.length==l.length&&az l.toArray&&P1 md l.toArray listed&&UG md l.toArray n (MF m 0) listed)=true)(d:S w)
  (h:EI P l.toArray S (fun a'=>Dv P md l.toArray (aD Q) S n f (UH (MF m 0) listed) a' w) (GJ m l) a):Dv P md l.toArray (aD Q) S n F listed a w:=by
 simp only[ap,beq_iff_eq]at b;obtain⟨⟨⟨h1,e⟩,g⟩,i⟩:=b;subst c;refine P4 e (fun _ _ _ _ _ h=>h) d (MF m 0) (GJ m l) f listed a ?_ (OF g) i h;have:=MG l m l [] rfl h1;simpa using this
theorem AK{S:World->Prop}{l:List Oper}(n F:Nat)(b:P.follows .mixedOrders=true)(c:l.length=F)(h:Dv P .any l.toArray (aD Q) S n F (aq F false) a w.drew):(ay id l.toArray true).wp P Q a w:=by
 subst c;exact aL (aN b (Iw _ _ _ _ h))
def Ag(P:aB)(md:an)(ops:Array Oper)(Q:Exit->Act->World->Prop)(S:World->Prop)(n f:Nat)(listed:Array Bool)(a:Act)(u:World)(rs:List Nat):Prop:=∀i∈rs,wpOp P ops Q i (fun a' b=>(i=n/\al md ops (listed.setIfInBounds n true)=[]/\Q .normal a' b)\/(i≠n/\S b/\Dv P md ops Q S n f (listed.setIfInBounds i true) a' b)) a u
theorem Ag.nil{S:World->Prop}:Ag P md ops Q S n f listed a u []:=fun _ h=>by cases h
theorem Ag.cons{S:World->Prop}(d:ops[i]?=aw o)(e:i≠n)
  (h:∀K:Act->World->Prop,Shut (∀a' b,S b->Dv P md ops Q S n f (listed.setIfInBounds i true) a' b->K a' b)->if am o (au ops a.tmps)=true then aE P o a u K Q else K (a.put o.dst undef) u)
  (g:Ag P md ops Q S n f listed a u rs):Ag P md ops Q S n f listed a u (i::rs):=fun j c=>by
 rcases aV.1 c with rfl|c
 ·exact aQ d (fun K k=>h K (fun a' b l m=>k a' b (.inr ⟨e,l,m⟩)))
 ·exact g j c
theorem Af{S:World->Prop}(b:al md ops listed=rs)(c:rs≠[])(h:Ag P md ops Q S n f listed a w rs):Dv P md ops Q S n (f+1) listed a w:=⟨fun d=>absurd (b▸d) c,b▸h⟩
theorem Bi{S:World->Prop}(c:al md ops listed=[n])(g:ops[n]?=aw o)(j:al md ops (listed.setIfInBounds n true)=[])
  (h:∀K:Act->World->Prop,Shut (∀a' b,Q .normal a' b->K a' b)->if am o (au ops a.tmps)=true then aE P o a w K Q else K (a.put o.dst undef) w):Dv P md ops Q S n (f+1) listed a w :=
 ⟨fun d=>(by rw[c]at d;cases d),fun i e=>by
   rw[c,aC]at e;subst e;exact aQ g (fun K k=>h K (fun a' b l=>k a' b (.inl ⟨rfl,j,l⟩)))⟩
variable {Inv:(Nat -> Bool) -> Act -> World -> Prop}{W W':World}
def BN(L:Nat->Bool)(i:Nat):Nat->Bool:=fun j=>if j=i then true else L j
def Dj(md:an)(ops:Array Oper)(i:Nat):List Nat:=match ops[i]? with
 | none=>[]
 | some o=>(o.after.toList.filter (fun e=>ao md e)).map (fun e=>e.on)
def Ak(P:aB)(md:an)(ops:Array Oper)(Q:Exit->Act->World->Prop)(Inv:(Nat->Bool)->Act->World->Prop)(n:Nat)(is:List Nat):Prop:=∀i∈is,∀(L:Nat->Bool) (a:Act) (w:World),L i=false->(∀j∈Dj md ops i,L j=true)->Inv L a w->wpOp P ops Q i (fun a' u=>if i=n then Q .normal a' u else Inv (BN L i) a' u) a w
theorem Ak.nil:Ak P md ops Q Inv n []:=fun _ h=>by cases h
theorem Ak.cons{is:List Nat}(d:List Nat)(e:ops[i]?=aw o)(f:i≠n)(g:Dj md ops i=d)
  (h:∀(L:Nat->Bool) (a:Act) (w:World),L i=false->(∀j∈d,L j=true)->Inv L a w->∀K:Act->World->Prop,Shut (∀a' b,Inv (BN L i) a' b->K a' b)->if am o (au ops a.tmps)=true then aE P o a w K Q else K (a.put o.dst undef) w)
  (k:Ak P md ops Q Inv n is):Ak P md ops Q Inv n (i::is):=fun j c=>by
 rcases aV.1 c with rfl|c
 ·intro L a w l h1 m;exact aQ e (fun K p=>h L a w l (g▸h1) m K (fun a' b q=>p a' b (by rw[if_neg f];exact q)))
 ·exact k j c
theorem Ak.last(c:List Nat)(e:ops[n]?=aw o)(f:Dj md ops n=c)
  (h:∀(L:Nat->Bool) (a:Act) (w:World),L n=false->(∀j∈c,L j=true)->Inv L a w->∀K:Act->World->Prop,Shut (∀a' b,Q .normal a' b->K a' b)->if am o (au ops a.tmps)=true then aE P o a w K Q else K (a.put o.dst undef) w):Ak P md ops Q Inv n [n]:=fun j d=>by
 rw[aC]at d;subst d;intro L a w g h1 i;exact aQ e (fun K k=>h L a w g (f▸h1) i K (fun a' b l=>k a' b (by rw[if_pos rfl];exact l)))
def Xm(md:an)(ops:Array Oper)(n:Nat):Bool:=(av ops.size).all (fun i=>(Dj md ops i).all (fun j=>decide (j<i)))&&(av ops.size).all (fun j=>j==n || ((Dj md ops n).contains j || (Dj md ops n).any (fun m=>(Dj md ops m).contains j)))&&decide (n<ops.size)
def SK(listed:Array Bool):Nat:=listed.toList.countP (fun b=>!b)
theorem Gy(c:ops[i]?=aw o):j∈Dj md ops i↔∃e∈o.after,ao md e=true/\e.on=j:=by
 unfold Dj;rw[c];simp only[List.mem_map,List.mem_filter,Array.mem_toList_iff];constructor
 ·rintro⟨e,⟨h1,a⟩,b⟩;exact⟨e,h1,a,b⟩
 ·rintro⟨e,h1,a,b⟩;exact⟨e,⟨h1,a⟩,b⟩
theorem Ff(h:j<listed.size)(a b:Bool):listed.getD j a=listed.getD j b:=by simp[h]
theorem SM(o:listed.size=ops.size)(c:∀i,i<ops.size->∀j∈Dj md ops i,j<i):∀j,j<ops.size->listed.getD j true=false->∃i,i∈al md ops listed:=by
 intro j
 induction j using Nat.strongRecOn with
 | _ j g =>
  intro a h;by_cases b:∀k∈Dj md ops j,listed.getD k true=true
  ·refine⟨j,mem_ready.2 ⟨h,ops[j],ar a,fun e l m=>?_⟩⟩;have d:e.on∈Dj md ops j:=(Gy (ar a)).2 ⟨e,l,m,rfl⟩;have f:=c j a _ d;rw[Ff (by omega) false true];exact b _ d
  ·simp only[Classical.not_forall,Bool.not_eq_true]at b;obtain⟨k,n,h1⟩:=b;have f:=c j a k n;exact g k f (by omega) h1
theorem PC(a:i<listed.size)(h:listed.getD i true=false):SK listed=SK (listed.setIfInBounds i true)+1:=by
 unfold SK;rw[Array.toList_setIfInBounds];have c:i<listed.toList.length:=by simpa using a
 have h1:listed.toList[i]=false:=by simpa [a] using h
 rw[List.countP_set c,h1];have:0<listed.toList.countP (fun b=>!b):=a0.2 ⟨false,h1▸List.getElem_mem c,rfl⟩;simp only[Bool.not_false,if_true,bd,a2,if_false];omega
theorem Aaq(a:i<listed.size):(fun j=>(listed.setIfInBounds i true).getD j true)=BN (fun j=>listed.getD j true) i:=by
 funext j
 unfold BN;by_cases h:j=i
 ·subst h;simp[a]
 ·rw[if_neg h,aM true (a6 h)]
theorem Xn(h:Xm md ops n=true)(D:Ak P md ops Q Inv n (av ops.size)):
  ∀(f:Nat) (listed:Array Bool) (a:Act) (w:World),C6 md ops listed->listed.size=ops.size->listed.getD n true=false->SK listed=f->Inv (fun j=>listed.getD j true) a w->wpAny P md ops Q f listed a w:=by
 unfold Xm at h;simp only[ap,aJ,aH,decide_eq_true_eq,a7,beq_iff_eq,List.contains_iff_mem,a5]at h;obtain⟨⟨k,E⟩,F⟩:=h;intro f
 induction f with
 | zero =>
  intro listed a w _ l g v _;rw[PC (by omega) g]at v;omega
 | succ f G =>
  intro listed a w x l g v H;refine⟨fun I=>?_,fun i c=>?_⟩
  ·obtain⟨i,c⟩:=SM l k n F g;rw[I]at c;cases c
  ·obtain⟨y,o,z,J⟩:=mem_ready.1 c;have p:i<ops.size:=(ax.1 z).1;have q:∀j∈Dj md ops i,listed.getD j true=true:=by
    intro j b;obtain⟨e,r,s,rfl⟩:=(Gy z).1 b;have:=k i p _ b;rw[Ff (by omega) true false];exact J e r s
   refine aI (fun a' u d=>?_) (D i (aH.2 p) _ a w y q H);have R:=PC (by omega) y;by_cases t:i=n
   ·subst t;rw[if_pos rfl]at d;have K:∀j,(listed.setIfInBounds i true).getD j true=true:=by
     intro j;have:=congrFun (Aaq (listed:=listed) (i:=i) (by omega)) j;rw[this];unfold BN;split
     ·rfl
     ·rename_i L;by_cases b:j<ops.size
      ·rcases E j b with e|M|⟨m,A,N⟩
       ·exact absurd e L
       ·exact q j M
       ·have O:=q m A;have S:=k i p m A;have B:m<ops.size:=by omega
        obtain⟨e,r,s,rfl⟩:=(Gy (ar B)).1 N;have:=x m ops[m] (ar B) (by rw[Ff (by omega) false true];exact O) e r s;show listed.getD e.on true=true
        rw[Ff (show e.on<listed.size by omega) true false];exact this
      ·have:listed.size<=j:=by omega
       simp[this]
    have C:al md ops (listed.setIfInBounds i true)=[]:=by
     rw[aU];intro j b;have:=(mem_ready.1 b).1;rw[K j]at this;cases this
    cases f with
    | zero=>exact⟨C,d⟩
    | succ f=>exact⟨fun _=>d,fun j b=>by rw[C]at b;cases b⟩
   ·rw[if_neg t]at d;refine G _ _ _ (x.step c) (by simpa using l) ?_ (by omega) (by rw[Aaq (by omega)];exact d);rw[aM true t];exact g
theorem VW(F:Nat):SK (aq F false)=F:=by unfold SK;rw[Array.toList_replicate,List.countP_replicate];rfl
theorem FE{l:List Oper}(Inv:(Nat->Bool)->Act->World->Prop)(n F:Nat)(is:List Nat)(d:P.follows .mixedOrders=true)(e:l.length=F)(f:av F=is)(b:Xm .any l.toArray n=true)(start:Inv (fun j=>decide (F<=j)) a w.drew)(g:Ak P .any l.toArray (aD Q) Inv n is):(ay id l.toArray true).wp P Q a w:=by
 subst e f;refine aL (aN d ?_);have h:n<l.length:=by unfold Xm at b;simp only[ap,decide_eq_true_eq,List.size_toArray]at b;exact b.2
 refine Xn b (by simpa using g) _ _ _ _ (C6.start _ _ _) (by simp) (by simp[h]) (by rw[VW]) ?_;have:(fun j=>(aq l.toArray.size false).getD j true)=fun j=>decide (l.length<=j):=by
  funext j
  by_cases c:j<l.length
  ·simp[c]
  ·simp[c];omega
 rw[this];exact start
def AE(A:(Nat->Value)->Act)(F:Nat->Value->World->Prop)(b:(Nat->Bool)->World->Prop)(L:Nat->Bool)(a:Act)(W:World):Prop:=∃v:Nat->Value,a=A v/\(∀i,L i=true->F i (v i) W)/\b L W
theorem AE.next{A:(Nat->Value)->Act}{F:Nat->Value->World->Prop}{a:(Nat->Bool)->World->Prop}{L:Nat->Bool}{v:Nat->Value}(h:∀i,L i=true->F i (v i) W)(i:Nat)(x:Value)(b:a'=A (fun j=>if j=i then x else v j))(c:∀j y,F j y W->F j y W')(d:F i x W')(f:a (BN L i) W'):AE A F a (BN L i) a' W':=by
 refine⟨_,b,fun j g=>?_,f⟩;by_cases e:j=i
 ·subst e;simpa using d
 ·simp only[e,if_false];refine c j _ (h j ?_);simpa [BN,e] using g
def CY:List Nat->(Nat->Value)->Nat->Array Value->Array Value
 | [],_,_,t=>t
 | d::ds,v,k,t=>CY ds v (k+1) (t.setIfInBounds d (v k))
def An(a:Act)(ds:List Nat)(v:Nat->Value):Act:={ a with tmps:=CY ds v 0 a.tmps }
theorem MN{l:List Oper}(ds:List Nat)(b:Nat->Value->World->Prop)(c:(Nat->Bool)->World->Prop)(n F:Nat)(is:List Nat)(d:P.follows .mixedOrders=true)(e:l.length=F)(f:av F=is)(g:Xm .any l.toArray n=true)(v0:Nat->Value)(h:a=An a ds v0)(h1:∀i,F<=i->b i (v0 i) w.drew)(k:c (fun j=>decide (F<=j)) w.drew)(m:Ak P .any l.toArray (aD Q) (AE (An a ds) b c) n is):(ay id l.toArray true).wp P Q a w :=
 FE (AE (An a ds) b c) n F is d e f g ⟨v0,h,fun i o=>h1 i (by simpa using o),k⟩ m
def Abs(md:an)(ops:Array Oper):Bool:=(av ops.size).all (fun i=>(Dj md ops i).all (fun j=>decide (j<i)))
theorem UP(g:Abs md ops=true)(v:Ak P md ops Q Inv ops.size (av ops.size))(hend:∀ (L:Nat->Bool) (a:Act) (w:World),(∀j,L j=true)->Inv L a w->Q .normal a w):
  ∀(f:Nat) (listed:Array Bool) (a:Act) (w:World),C6 md ops listed->listed.size=ops.size->SK listed=f->Inv (fun j=>listed.getD j true) a w->wpAny P md ops Q f listed a w:=by
 unfold Abs at g;simp only[aJ,aH,decide_eq_true_eq]at g;have n:=g;intro f
 induction f with
 | zero =>
  intro listed a w _ h k l;have p:∀j,listed.getD j true=true:=by
   intro j;by_cases c:j<listed.size
   ·have:=List.countP_eq_zero.1 k listed[j] (by simp);simpa [c] using this
   ·simp[Nat.le_of_not_lt c]
  refine⟨?_,hend _ a w p l⟩;rw[aU];intro j c;have:=(mem_ready.1 c).1;rw[p j]at this;cases this
 | succ f x =>
  intro listed a w y h k l;refine⟨fun z=>?_,fun i d=>?_⟩
  ·obtain⟨b,m,A⟩:=a0.1 (show 0<listed.toList.countP (fun b=>!b) by unfold SK at k;omega);obtain⟨j,c,e⟩:=List.mem_iff_getElem.1 m;have B:j<listed.size:=by simpa using c
   obtain⟨i,d⟩:=SM h n j (by omega) (by
    have C:listed[j]=b:=by simpa using e
    simp only[B,Array.getD_eq_getD_getElem?,ar,Option.getD_some,C];simpa using A)
   rw[z]at d;cases d
  ·obtain⟨q,o,r,D⟩:=mem_ready.1 d;have s:i<ops.size:=(ax.1 r).1;have E:∀j∈Dj md ops i,listed.getD j true=true:=by
    intro j c;obtain⟨e,F,m,rfl⟩:=(Gy r).1 c;have:=n i s _ c;rw[Ff (by omega) true false];exact D e F m
   refine aI (fun a' u t=>?_) (v i (aH.2 s) _ a w q E l);have G:=PC (by omega) q;rw[if_neg (by omega)]at t;exact x _ _ _ (y.step d) (by simpa using h) (by omega) (by rw[Aaq (by omega)];exact t)
theorem MO{l:List Oper}(ds:List Nat)(b:Nat->Value->World->Prop)(c:(Nat->Bool)->World->Prop)(F:Nat)(is:List Nat)(g:P.follows .mixedOrders=true)(h:l.length=F)(k:av F=is)(m:Abs .any l.toArray=true)(v0:Nat->Value)(n:a=An a ds v0)(h1:∀i,F<=i->b i (v0 i) w.drew)(o:c (fun j=>decide (F<=j)) w.drew)(p:Ak P .any l.toArray (aD Q) (AE (An a ds) b c) F is)(hend:∀ (v:Nat->Value) (w':World) (L:Nat->Bool),(∀j,L j=true)->(∀i,b i (v i) w')->c L w'->aD Q .normal (An a ds v) w'):(ay id l.toArray true).wp P Q a w:=by
 subst h k;refine aL (aN g ?_);refine UP (Inv:=AE (An a ds) b c) m (by simpa using p) (fun L a' w' d ⟨v,e,q,r⟩=>by rw[e];exact hend v w' L d (fun i=>q i (d i)) r) _ _ _ _ (C6.start _ _ _) (by simp) (by rw[VW]) ?_;have:(fun j=>(aq l.toArray.size false).getD j true)=fun j=>decide (l.length<=j):=by
  funext j
  by_cases f:j<l.length
  ·simp[f]
  ·simp[f];omega
 rw[this];exact⟨v0,n,fun i s=>h1 i (by simpa using s),o⟩
theorem OI:∀(ds:List Nat) (t:Array Value) (k:Nat) (v:Nat->Value),(∀j,j<ds.length->v (k+j)=t.getD (ds.getD j 0) undef)->CY ds v k t=t
 | [],_,_,_,_=>rfl
 | d::ds,t,k,v,h=>by
  have a:v k=t.getD d undef:=by simpa using h 0 (by simp)
  have e:t.setIfInBounds d (v k)=t:=by
   rw[a];by_cases hd:d<t.size
   ·refine Array.ext (by simp) fun i h1 c=>?_
    rw[Array.getElem_setIfInBounds];split
    ·rename_i e;subst e;simp
    ·rfl
   ·rw[Array.setIfInBounds_eq_of_size_le (by omega)]
  unfold CY;rw[e];refine OI ds t (k+1) v fun j b=>?_
  have:=h (j+1) (by simpa using b);rw[show k+(j+1)=k+1+j by omega]at this;simpa using this
theorem Kk(a:Act)(ds:List Nat):a=An a ds (fun i=>a.tmps.getD (ds.getD i 0) undef):=by
 unfold An;rw[OI ds a.tmps 0 _ (fun j _=>by rw[aS])]
theorem E7{l:List Oper}(ds:List Nat)(b:Nat->Value->World->Prop)(c:(Nat->Bool)->World->Prop)(F:Nat)(is:List Nat)(d:P.follows .mixedOrders=true)(e:l.length=F)(f:av F=is)(g:Abs .any l.toArray=true)(h1:∀i x W,F<=i->b i x W)(h:c (fun j=>decide (F<=j)) w.drew)(k:Ak P .any l.toArray (aD Q) (AE (An a ds) b c) F is)(hend:∀ (v:Nat->Value) (w':World) (L:Nat->Bool),(∀j,L j=true)->(∀i,b i (v i) w')->c L w'->aD Q .normal (An a ds v) w'):(ay id l.toArray true).wp P Q a w :=
 MO ds b c F is d e f g _ (Kk a ds) (fun i m=>h1 i _ _ m) h k hend
theorem Bu{l:List Oper}(ds:List Nat)(b:Nat->Value->World->Prop)(c:(Nat->Bool)->World->Prop)(n F:Nat)(is:List Nat)(d:P.follows .mixedOrders=true)(e:l.length=F)(f:av F=is)(g:Xm .any l.toArray n=true)(h1:∀i x W,F<=i->b i x W)(h:c (fun j=>decide (F<=j)) w.drew)(k:Ak P .any l.toArray (aD Q) (AE (An a ds) b c) n is):(ay id l.toArray true).wp P Q a w :=
 MN ds b c n F is d e f g _ (Kk a ds) (fun i m=>h1 i _ _ m) h k
structure BJ(p:Prop):Prop where
 out:p
theorem Ak.ae{is:List Nat}(b:List Nat)(d:ops[i]?=aw o)(e:i≠n)(f:Dj md ops i=b)(g:o.guard=none)
  (h:∀(k:Exit->Act->World->Prop) (L:Nat->Bool) (a:Act) (w:World),L i=false->(∀j∈b,L j=true)->Inv L a w->∀K:Act->World->Prop,Shut (∀a' c,Inv (BN L i) a' c->K a' c)->BJ (aE P o a w K k))
  (l:Ak P md ops Q Inv n is):Ak P md ops Q Inv n (i::is) :=
 Ak.cons b d e f (fun L a w m h1 p K q=>by
  rw[if_pos (by simp[am,g])];exact(h Q L a w m h1 p K q).out) l
theorem Ak.lastQ(b:List Nat)(d:ops[n]?=aw o)(e:Dj md ops n=b)(f:o.guard=none)
  (h:∀(g:Exit->Act->World->Prop) (L:Nat->Bool) (a:Act) (w:World),L n=false->(∀j∈b,L j=true)->Inv L a w->∀K:Act->World->Prop,Shut (∀a' c,Q .normal a' c->K a' c)->BJ (aE P o a w K g)):Ak P md ops Q Inv n [n] :=
 Ak.last b d e (fun L a w i h1 k K l=>by
  rw[if_pos (by simp[am,f])];exact(h Q L a w i h1 k K l).out)
theorem AE.ak{A:(Nat->Value)->Act}{F:Nat->Value->World->Prop}{a:(Nat->Bool)->World->Prop}{L:Nat->Bool}{v:Nat->Value}(h:∀i,L i=true->F i (v i) W)(i:Nat)(x:Value)(c:a'=A (fun j=>if j=i then x else v j))(d:∀j y,L j=true->F j y W->F j y W')(f:F i x W')(g:a (BN L i) W'):AE A F a (BN L i) a' W':=by
 refine⟨_,c,fun j k=>?_,g⟩;by_cases e:j=i
 ·subst e;simpa using f
 ·simp only[e,if_false];have b:L j=true:=by simpa [BN,e] using k
  exact d j _ b (h j b)
variable {ds:List Nat}{d:Nat}
theorem Ae(a:Act)(x:Value):a.eval (.const x)=x:=rfl
theorem Cu(a:Act)(f:FuncId):a.eval (.func f)=.func (.func f) #[] #[]:=rfl
theorem OJ:∀(ds:List Nat) (v:Nat->Value) (k:Nat) (t:Array Value),(CY ds v k t).size=t.size
 | [],_,_,_=>rfl
 | d::ds,v,k,t=>by unfold CY;rw[OJ];simp
theorem MP:∀(ds:List Nat) (v:Nat->Value) (k:Nat) (t:Array Value) (s:Nat),s ∉ ds->(CY ds v k t).getD s undef=t.getD s undef
 | [],_,_,_,_,_=>rfl
 | d::ds,v,k,t,s,h=>by
  unfold CY;rw[MP ds v (k+1) _ s (fun e=>h (aY _ e))];have a:d≠s:=fun e=>h (by rw[e];exact a1 ..)
  simp[a]
theorem VX:∀(ds:List Nat) (v:Nat->Value) (k:Nat) (t:Array Value) (j d:Nat),ds.Nodup->ds[j]?=aw d->d<t.size->(CY ds v k t).getD d undef=v (k+j)
 | [],_,_,_,_,_,_,h,_=>by simp at h
 | a::ds,v,k,t,0,d,b,h,hd=>by
  have e:a=d:=by simpa using h
  subst e;unfold CY;rw[MP ds v (k+1) _ a (aO.1 b).1];simp[hd]
 | a::ds,v,k,t,j+1,d,b,h,hd=>by
  unfold CY;rw[VX ds v (k+1) _ j d (aO.1 b).2 (by simpa using h) (by simpa using hd),show k+1+j=k+(j+1) by omega]
theorem OK:∀(ds:List Nat) (v:Nat->Value) (k:Nat) (t:Array Value) (d:Nat) (x:Value),d ∉ ds->(CY ds v k t).setIfInBounds d x=CY ds v k (t.setIfInBounds d x)
 | [],_,_,_,_,_,_=>rfl
 | a::ds,v,k,t,d,x,h=>by
  unfold CY;have b:a≠d:=fun e=>h (by rw[e];exact a1 ..)
  rw[OK ds v (k+1) _ d x (fun e=>h (aY _ e)),aA _ _ b]
theorem OL:∀(ds:List Nat) (v v':Nat->Value) (k:Nat) (t:Array Value),(∀i,k<=i->v i=v' i)->CY ds v k t=CY ds v' k t
 | [],_,_,_,_,_=>rfl
 | d::ds,v,v',k,t,h=>by
  unfold CY;rw[h k (Nat.le_refl _),OL ds v v' (k+1) _ (fun i a=>h i (by omega))]
theorem SN:∀(ds:List Nat) (v:Nat->Value) (k:Nat) (t:Array Value) (j d:Nat) (x:Value),ds.Nodup->ds[j]?=aw d->(CY ds v k t).setIfInBounds d x=CY ds (fun i=>if i=k+j then x else v i) k t
 | [],_,_,_,_,_,_,_,h=>by simp at h
 | a::ds,v,k,t,0,d,x,b,h=>by
  have e:a=d:=by simpa using h
  subst e;unfold CY;rw[OK ds v (k+1) _ a x (aO.1 b).1,Array.setIfInBounds_setIfInBounds];simp only[Nat.add_zero,if_true];exact OL _ _ _ _ _ (fun i c=>by rw[if_neg (by omega)])
 | a::ds,v,k,t,j+1,d,x,b,h=>by
  unfold CY;rw[SN ds v (k+1) _ j d x (aO.1 b).2 (by simpa using h)];have e:k≠k+(j+1):=by omega
  simp only[e,if_false];rw[show k+1+j=k+(j+1) by omega]
theorem A6{v:Nat->Value}{s:Nat}(b:s ∉ ds):(An a ds v).eval (.tmp s)=a.eval (.tmp s):=MP ds v 0 a.tmps s b
theorem Ao{v:Nat->Value}(k:Nat)(b:ds.Nodup)(c:ds[k]?=aw d)(hd:d<a.tmps.size):(An a ds v).eval (.tmp d)=v k:=by
 have:=VX ds v 0 a.tmps k d b c hd;rw[aS]at this;exact this
theorem Av{v:Nat->Value}(k:Nat){x:Value}(b:ds.Nodup)(c:ds[k]?=aw d):(An a ds v).put (aw d) x=An a ds (fun j=>if j=k then x else v j):=by
 have:=SN ds v 0 a.tmps k d x b c;rw[aS]at this;show ({ (An a ds v) with tmps:=(An a ds v).tmps.setIfInBounds d x }:Act)=_
 unfold An;simp only[this]
