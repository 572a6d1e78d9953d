import Derived.Lib.Bytealg
namespace Go.Proofs.YtpdahhnjhggocaaGreatDoor
set_option maxHeartbeats 16000000
set_option maxRecDepth 100000
variable {α:Type}
def Ga{α:Type}[LT α][DecidableRel (α:=α) (· < ·)]:List α→List α→Int
 | [],[]=>0
 | [],_::_=>-1
 | _::_,[]=>1
 | a::as,b::bs=>if a<b then -1 else if b<a then 1 else Ga as bs
class Jj (α:Type) [LT α]:Prop where
 irr:∀ a:α,¬ a<a
 trans:∀ a b c:α,a<b→b<c→a<c
 tri:∀ a b:α,¬ a<b→¬ b<a→a=b
instance:Jj UInt8 where
 irr:=UInt8.lt_irrefl
 trans:=fun _ _ _ h k=>UInt8.lt_trans h k
 tri:=fun _ _ h k=>UInt8.le_antisymm (UInt8.not_lt.1 k) (UInt8.not_lt.1 h)
theorem It[LT α][Jj α]{a b:α}{as bs:List α}:a::as<b::bs↔a<b∨a=b∧as<bs:=List.cons_lt_cons_iff
instance {α:Type} [LT α] [Jj α]:Jj (List α) where
 irr:=by
  intro l
  induction l with
  | nil=>exact List.not_lt_nil _
  | cons a l ih=>rw[It];exact fun h=>h.elim (fun h=>Jj.irr _ h) (fun h=>ih h.2)
 trans:=by
  intro a
  induction a with
  | nil =>
   intro b c _ k;cases c with
   | nil=>exact absurd k (List.not_lt_nil _)
   | cons x c=>exact List.nil_lt_cons _ _
  | cons x a ih =>
   intro b c h k;cases b with
   | nil=>exact absurd h (List.not_lt_nil _)
   | cons y b =>
    cases c with
    | nil=>exact absurd k (List.not_lt_nil _)
    | cons z c =>
     rw[It]at h k ⊢;rcases h with h | ⟨rfl,h⟩
     ·rcases k with k | ⟨rfl,k⟩
      ·exact .inl (Jj.trans _ _ _ h k)
      ·exact .inl h
     ·rcases k with k | ⟨rfl,k⟩
      ·exact .inl k
      ·exact .inr ⟨rfl,ih b c h k⟩
 tri:=by
  intro a
  induction a with
  | nil =>
   intro b h _;cases b with
   | nil=>rfl
   | cons y b=>exact absurd (List.nil_lt_cons _ _) h
  | cons x a ih =>
   intro b h k;cases b with
   | nil=>exact absurd (List.nil_lt_cons _ _) k
   | cons y b =>
    rw[It]at h k;have e:x=y:=Jj.tri x y (fun q=>h (.inl q)) (fun q=>k (.inl q));subst e;rw[ih b (fun q=>h (.inr ⟨rfl,q⟩)) (fun q=>k (.inr ⟨rfl,q⟩))]
theorem Ot{α:Type}[LT α][DecidableRel (α:=α) (· < ·)][Jj α]:∀ a b:List α,Ga a b<0↔a<b
 | [],[]=>by simp[Ga,List.not_lt_nil]
 | [],y::b=>by simp[Ga]
 | x::a,[]=>by simp[Ga,List.not_lt_nil]
 | x::a,y::b=>by
  rw[It];unfold Ga;by_cases h:x<y
  ·simp[h]
  ·by_cases k:y<x
   ·simp only[h,k,if_true,if_false,false_or];constructor
    ·intro q;omega
    ·rintro⟨rfl,_⟩;exact absurd k h
   ·obtain rfl:=Jj.tri x y h k;simp[h,Ot a b]
theorem Hx{α:Type}[LT α][DecidableRel (α:=α) (· < ·)][Jj α]:∀ a b:List α,Ga a b=0↔a=b
 | [],[]=>by simp[Ga]
 | [],y::b=>by simp[Ga]
 | x::a,[]=>by simp[Ga]
 | x::a,y::b=>by
  unfold Ga;by_cases h:x<y
  ·simp only[h,if_true,List.cons.injEq];constructor
   ·intro q;omega
   ·rintro⟨rfl,_⟩;exact absurd h (Jj.irr _)
  ·by_cases k:y<x
   ·simp only[h,k,if_true,if_false,List.cons.injEq];constructor
    ·intro q;omega
    ·rintro⟨rfl,_⟩;exact absurd k h
   ·obtain rfl:=Jj.tri x y h k;simp[h,Hx a b]
theorem Pw:∀ a b:List UInt8,Lib.compareBytes a b=Ga a b
 | [],[]=>rfl
 | [],_::_=>rfl
 | _::_,[]=>rfl
 | x::a,y::b=>by unfold Lib.compareBytes Ga;rw[Pw a b]
theorem L6:∀ x y:List UInt8,Op.bytesLess x y=decide (x<y)
 | [],[]=>by simp[Op.bytesLess]
 | [],b::bs=>by simp[Op.bytesLess]
 | a::as,[]=>by simp[Op.bytesLess]
 | a::as,b::bs=>by
  rw[show decide (a::as<b::bs)=decide (a<b∨a=b∧as<bs) from decide_eq_decide.2 It];have:=L6 as bs;by_cases h:a<b
  ·simp[Op.bytesLess,h]
  ·by_cases k:a=b
   ·subst k;simp[Op.bytesLess,h,this]
   ·simp[Op.bytesLess,h,k]
theorem Jk{α:Type}{r:α→α→Prop}(ht:∀ a b c,r a b→r b c→r a c):∀(l:List α),(∀ i a b,l[i]?=some a→l[i+1]?=some b→r a b)→l.Pairwise r
 | [],_=>.nil
 | [a],_=>List.pairwise_singleton _ _
 | a::b::l,h=>by
  have ih:=Jk ht (b::l) (fun i x y hx hy=>h (i+1) x y (by simpa using hx) (by simpa using hy));have hab:r a b:=h 0 a b rfl rfl;refine List.pairwise_cons.2 ⟨fun c hc=>?_,ih⟩;rcases List.mem_cons.1 hc with rfl | hc
  ·exact hab
  ·exact ht _ _ _ hab ((List.pairwise_cons.1 ih).1 c hc)
theorem E7{r:α→α→Prop}{l:List α}(h:l.Pairwise r)(i j:Nat)(hij:i<j)(a b:α)(ha:l[i]?=some a)(hb:l[j]?=some b):r a b:=by
 obtain⟨hi,rfl⟩:=List.getElem?_eq_some_iff.1 ha;obtain⟨hj,rfl⟩:=List.getElem?_eq_some_iff.1 hb;exact(List.pairwise_iff_getElem.1 h) i j hi hj hij
def Dd{α:Type}(lt:α→α→Bool)(x:α):List α→List α
 | []=>[x]
 | y::l=>if lt y x then y::Dd lt x l else x::y::l
theorem Fp{α:Type}(lt:α→α→Bool)(x:α):∀ l:List α,(Dd lt x l).Perm (x::l)
 | []=>.refl _
 | y::l=>by
  unfold Dd;split
  ·exact((Fp lt x l).cons y).trans (.swap _ _ _)
  ·exact .refl _
theorem Gz{α:Type}{r:α→α→Prop}(hirr:∀ a,¬ r a a)(ht:∀ a b c,r a b→r b c→r a c):∀ {l m:List α},l.Pairwise r→m.Pairwise r→l.Perm m→l=m
 | [],m,_,_,hp=>by rw[List.nil_perm.1 hp]
 | a::l,[],_,_,hp=>by have:=hp.length_eq;simp at this
 | a::l,b::m,hl,hm,hp=>by
  have h1:=List.pairwise_cons.1 hl;have h2:=List.pairwise_cons.1 hm;have hab:a=b:=by
   have ha:a∈b::m:=hp.mem_iff.1 (List.mem_cons_self ..);have hb:b∈a::l:=hp.mem_iff.2 (List.mem_cons_self ..);rcases List.mem_cons.1 ha with h | h
   ·exact h
   ·rcases List.mem_cons.1 hb with k | k
    ·exact k.symm
    ·exact absurd (ht _ _ _ (h1.1 b k) (h2.1 a h)) (hirr _)
  subst hab;rw[Gz hirr ht h1.2 h2.2 (List.Perm.cons_inv hp)]
end Go.Proofs.YtpdahhnjhggocaaGreatDoor
