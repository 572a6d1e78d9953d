import Derived.Lib.Bytealg
open List renaming not_lt_nil->aa,pairwise_cons->ac,nil_lt_cons->ad,getElem?_eq_some_iff->ae,mem_cons->af,mem_cons_self->ah
open Go.Op renaming bytesLess->ab
open List.cons renaming injEq->ag
open Go.Lib renaming compareBytes->ai
open UInt8 renaming not_lt->aj
namespace Go.Proofs.YtpdahhnjhggocaaGreatDoor
set_option maxHeartbeats 16000000
set_option maxRecDepth 100000
variable {α:Type}
def DV{α:Type}[LT α][DecidableRel (α:=α) (· < ·)]:List α->List α->Int
 | [],[]=>0
 | [],_::_=>-1
 | _::_,[]=>1
 | a::as,b::bs=>if a<b then -1 else if b<a then 1 else DV as bs
class FJ (α:Type) [LT α]:Prop where
 irr:∀a:α,¬a<a
 trans:∀a b c:α,a<b->b<c->a<c
 tri:∀a b:α,¬a<b->¬b<a->a=b
instance:FJ UInt8 where
 irr:=UInt8.lt_irrefl
 trans:=fun _ _ _ h k=>UInt8.lt_trans h k
 tri:=fun _ _ h k=>UInt8.le_antisymm (aj.1 k) (aj.1 h)
theorem FK[LT α][FJ α]{a b:α}{as bs:List α}:a::as<b::bs↔a<b\/a=b/\as<bs:=List.cons_lt_cons_iff
instance {α:Type} [LT α] [FJ α]:FJ (List α) where
 irr:=by
  intro l
  induction l with
  | nil=>exact aa _
  | cons a l ih=>rw[FK];exact fun h=>h.elim (fun h=>FJ.irr _ h) (fun h=>ih h.2)
 trans:=by
  intro a
  induction a with
  | nil =>
   intro b c _ k;cases c with
   | nil=>exact absurd k (aa _)
   | cons x c=>exact ad _ _
  | cons x a ih =>
   intro b c h k;cases b with
   | nil=>exact absurd h (aa _)
   | cons y b =>
    cases c with
    | nil=>exact absurd k (aa _)
    | cons z c =>
     rw[FK]at h k⊢;rcases h with h | ⟨rfl,h⟩
     ·rcases k with k | ⟨rfl,k⟩
      ·exact .inl (FJ.trans _ _ _ h k)
      ·exact .inl h
     ·rcases k with k | ⟨rfl,k⟩
      ·exact .inl k
      ·exact .inr ⟨rfl,ih b c h k⟩
 tri:=by
  intro a
  induction a with
  | nil =>
   intro b h _;cases b with
   | nil=>rfl
   | cons y b=>exact absurd (ad _ _) h
  | cons x a ih =>
   intro b h k;cases b with
   | nil=>exact absurd (ad _ _) k
   | cons y b =>
    rw[FK]at h k;have e:x=y:=FJ.tri x y (fun q=>h (.inl q)) (fun q=>k (.inl q));subst e;rw[ih b (fun q=>h (.inr ⟨rfl,q⟩)) (fun q=>k (.inr ⟨rfl,q⟩))]
theorem LG{α:Type}[LT α][DecidableRel (α:=α) (· < ·)][FJ α]:∀a b:List α,DV a b<0↔a<b
 | [],[]=>by simp[DV,aa]
 | [],y::b=>by simp[DV]
 | x::a,[]=>by simp[DV,aa]
 | x::a,y::b=>by
  rw[FK];unfold DV;by_cases h:x<y
  ·simp[h]
  ·by_cases k:y<x
   ·simp only[h,k,if_true,if_false,false_or];constructor
    ·intro q;omega
    ·rintro⟨rfl,_⟩;exact absurd k h
   ·obtain rfl:=FJ.tri x y h k;simp[h,LG a b]
theorem Fc{α:Type}[LT α][DecidableRel (α:=α) (· < ·)][FJ α]:∀a b:List α,DV a b=0↔a=b
 | [],[]=>by simp[DV]
 | [],y::b=>by simp[DV]
 | x::a,[]=>by simp[DV]
 | x::a,y::b=>by
  unfold DV;by_cases h:x<y
  ·simp only[h,if_true,ag];constructor
   ·intro q;omega
   ·rintro⟨rfl,_⟩;exact absurd h (FJ.irr _)
  ·by_cases k:y<x
   ·simp only[h,k,if_true,if_false,ag];constructor
    ·intro q;omega
    ·rintro⟨rfl,_⟩;exact absurd k h
   ·obtain rfl:=FJ.tri x y h k;simp[h,Fc a b]
theorem MM:∀a b:List UInt8,ai a b=DV a b
 | [],[]=>rfl
 | [],_::_=>rfl
 | _::_,[]=>rfl
 | x::a,y::b=>by unfold ai DV;rw[MM a b]
theorem Jo:∀x y:List UInt8,ab x y=decide (x<y)
 | [],[]=>by simp[ab]
 | [],b::bs=>by simp[ab]
 | a::as,[]=>by simp[ab]
 | a::as,b::bs=>by
  rw[show decide (a::as<b::bs)=decide (a<b\/a=b/\as<bs) from decide_eq_decide.2 FK];have:=Jo as bs;by_cases h:a<b
  ·simp[ab,h]
  ·by_cases k:a=b
   ·subst k;simp[ab,h,this]
   ·simp[ab,h,k]
theorem GB{α:Type}{r:α->α->Prop}(e:∀a b c,r a b->r b c->r a c):∀(l:List α),(∀i a b,l[i]?=some a->l[i+1]?=some b->r a b)->l.Pairwise r
 | [],_=>.nil
 | [a],_=>List.pairwise_singleton _ _
 | a::b::l,h=>by
  have f:=GB e (b::l) (fun i x y j k=>h (i+1) x y (by simpa using j) (by simpa using k));have g:r a b:=h 0 a b rfl rfl;refine ac.2 ⟨fun c d=>?_,f⟩;rcases af.1 d with rfl | d
  ·exact g
  ·exact e _ _ _ g ((ac.1 f).1 c d)
theorem D1{r:α->α->Prop}{l:List α}(h:l.Pairwise r)(i j:Nat)(c:i<j)(a b:α)(d:l[i]?=some a)(e:l[j]?=some b):r a b:=by
 obtain⟨f,rfl⟩:=ae.1 d;obtain⟨g,rfl⟩:=ae.1 e;exact(List.pairwise_iff_getElem.1 h) i j f g c
def Cb{α:Type}(a:α->α->Bool)(x:α):List α->List α
 | []=>[x]
 | y::l=>if a y x then y::Cb a x l else x::y::l
theorem DN{α:Type}(a:α->α->Bool)(x:α):∀l:List α,(Cb a x l).Perm (x::l)
 | []=>.refl _
 | y::l=>by
  unfold Cb;split
  ·exact((DN a x l).cons y).trans (.swap _ _ _)
  ·exact .refl _
theorem C9{α:Type}{r:α->α->Prop}(e:∀a,¬r a a)(f:∀a b c,r a b->r b c->r a c):∀ {l m:List α},l.Pairwise r->m.Pairwise r->l.Perm m->l=m
 | [],m,_,_,d=>by rw[List.nil_perm.1 d]
 | a::l,[],_,_,d=>by have:=d.length_eq;simp at this
 | a::l,b::m,i,j,d=>by
  have h1:=ac.1 i;have g:=ac.1 j;have n:a=b:=by
   have o:a∈b::m:=d.mem_iff.1 (ah ..);have p:b∈a::l:=d.mem_iff.2 (ah ..);rcases af.1 o with h | h
   ·exact h
   ·rcases af.1 p with k | k
    ·exact k.symm
    ·exact absurd (f _ _ _ (h1.1 b k) (g.1 a h)) (e _)
  subst n;rw[C9 e f h1.2 g.2 (List.Perm.cons_inv d)]
