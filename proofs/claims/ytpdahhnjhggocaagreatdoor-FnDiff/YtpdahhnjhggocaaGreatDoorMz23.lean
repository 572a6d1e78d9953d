import Derived.Test.YtpdahhnjhggocaaGreatDoorMz21
import Derived.Shelf.Strings.BuilderK
namespace Go.Proofs.YtpdahhnjhggocaaGreatDoor
open Go.RowKit
set_option maxHeartbeats 16000000
set_option maxRecDepth 100000
variable {md:Region.Mode}{ops:Array Oper}{listed:Array Bool}{i n f:Nat}
def Er(md:Region.Mode)(ops:Array Oper)(listed:Array Bool):Prop:=∀ j oj,ops[j]?=some oj→listed.getD j false=true→∀ e∈oj.after,Region.binds md e=true→listed.getD e.on false=true
theorem Er.start(md:Region.Mode)(ops:Array Oper)(n:Nat):Er md ops (Array.replicate n false):=by
 intro j oj _ hl;exfalso;by_cases h:j<n
 ·simp[h]at hl
 ·simp[h]at hl
theorem Er.step(h:Er md ops listed)(hi:i∈Region.ready md ops listed):Er md ops (listed.setIfInBounds i true):=by
 intro j oj hoj hl e he hb;obtain⟨_,o,ho,hall⟩:=mem_ready.1 hi;by_cases hji:i=j
 ·subst hji;rw[ho]at hoj;cases hoj
  exact getD_set_true (hall e he hb)
 ·rw[getD_set_ne false hji]at hl;exact getD_set_true (h j oj hoj hl e he hb)
def Jt(md:Region.Mode)(ops:Array Oper):Nat→Nat→Nat→Bool
 | 0,_,_=>false
 | f+1,n,i=>match ops[n]? with
  | none=>false
  | some o=>o.after.toList.any fun e=>Region.binds md e && (e.on == i || Jt md ops f e.on i)
theorem Wv{md:Region.Mode}{ops:Array Oper}{listed:Array Bool}(h:Er md ops listed){i:Nat}(hi:listed.getD i false=false):∀(f n:Nat),Jt md ops f n i=true→∃ o,ops[n]?=some o∧∃ e∈o.after,Region.binds md e=true∧listed.getD e.on false=false
 | 0,_,e=>by cases e
 | f+1,n,e=>by
  unfold Jt at e;cases ho:ops[n]? with
  | none=>rw[ho]at e;cases e
  | some o =>
   rw[ho]at e;simp only[List.any_eq_true,Bool.and_eq_true,Bool.or_eq_true,beq_iff_eq]at e;obtain⟨x,hx,hb,hw⟩:=e;refine⟨o,rfl,x,by simpa using hx,hb,?_⟩;rcases hw with hw | hw
   ·rw[hw];exact hi
   ·obtain⟨o',ho',y,hy,hyb,hyl⟩:=Wv h hi f x.on hw;cases hxl:listed.getD x.on false with
    | false=>rfl
    | true =>
     have:=h x.on o' ho' hxl y hy hyb;rw[hyl]at this;cases this
theorem Ko(hi:i∈Region.ready md ops listed):listed.getD i false=false:=by
 have h0:=(mem_ready.1 hi).1;rcases Nat.lt_or_ge i listed.size with h' | h'
 ·simp[h']at h0 ⊢;exact h0
 ·simp[Array.getElem?_eq_none h']at h0
theorem Si(h:Er md ops listed)(hi:i∈Region.ready md ops listed)(hw:Jt md ops f n i=true):n ∉ Region.ready md ops listed:=by
 intro hn;obtain⟨o,ho,e,he,hb,hl⟩:=Wv h (Ko hi) f n hw;obtain⟨_,o',ho',hall⟩:=mem_ready.1 hn;rw[ho]at ho';cases ho'
 rw[hall e he hb]at hl;cases hl
variable {P:Program}{w w' u:World}{o:Oper}{v:Value}{a a':Act}{Q:Exit → Act → World → Prop}{K:Act → World → Prop}{j id F:Nat}{rs:List Nat}{α:Type}
def El(P:Program)(ops:Array Oper)(w:World)(o:Oper)(v:Value)(a:Act):Prop :=
 (Region.wanted o (yielded ops a.tmps)=true∧∀ p:Gr w,o.quietAt P a (fun u=>Below p.u.heap.size p.u u) p.u v)∨(Region.wanted o (yielded ops a.tmps)=false∧v=undef)
theorem El.same(hy:El P ops w o v a)(he:execOp a'.eval o=execOp a.eval o)(hw:Region.wanted o (yielded ops a'.tmps)=Region.wanted o (yielded ops a.tmps)):El P ops w o v a':=by
 unfold El Oper.quietAt at *;rw[he,hw];exact hy
theorem El.up(hy:El P ops w o v a)(hb:Below w.heap.size w w'):El P ops w' o v a :=
 hy.imp (fun⟨h1,h2⟩=>⟨h1,fun p=>h2 ⟨p.u,hb.trans (p.h.mono hb.size)⟩⟩) id
theorem El.wpOp(hi:ops[i]?=some o)(hy:El P ops w o v a)(p:Gr w)(h:∀ u,Below p.u.heap.size p.u u→K (a.put o.dst v) u):wpOp P ops Q i K a p.u:=by
 unfold Go.wpOp;simp only[hi];rcases hy with ⟨hw,hv⟩ | ⟨hw,rfl⟩
 ·simp only[hw,if_true];refine .inl ?_;have h3:=hv p;unfold Oper.quietAt at h3;unfold Oper.wp;generalize (execOp a.eval o).run P p.u=r at *;cases r with
  | ok n w' =>
   cases n <;> simp only[Oper.quietUpon]at h3 <;> simp only[Oper.upon]
   case value x=>obtain⟨rfl,rfl⟩:=h3;exact h _ (Below.refl _ _)
   case skip=>obtain⟨rfl,rfl⟩:=h3;exact h _ (Below.refl _ _)
   case enter f args =>
    obtain⟨rfl,hc⟩:=h3;exact hc.mono fun e w'' ⟨he,hb⟩=>by subst he;exact h _ hb
  | halt x w'=>simp only[Oper.quietUpon]at h3
 ·simp only[hw,Bool.false_eq_true,if_false];exact h _ (Below.refl _ _)
theorem Zf{oj:Oper}(hj:ops[j]?=some oj)(h:wpOp P ops Q j K a w):wpOp P ops Q j (fun a' w'=>(∃ u d,a'=({ a with defers:=d }:Act).put oj.dst u)∧K a' w') a w:=by
 unfold wpOp at *;simp only[hj]at *;split
 ·rename_i hw;simp only[hw,if_true]at h;rcases h with h | h
  case inr=>exact .inr h
  refine .inl ?_;unfold Oper.wp at *;generalize (execOp a.eval oj).run P w=r at *;cases r with
  | ok n w' =>
   cases n <;> simp only[Oper.upon]at h ⊢
   case value u=>exact⟨⟨u,a.defers,rfl⟩,h⟩
   case skip=>exact⟨⟨undef,a.defers,rfl⟩,h⟩
   case defer d=>exact⟨⟨undef,d::a.defers,rfl⟩,h⟩
   case enter f args =>
    refine Calls.mono h fun e w'' he=>?_
    cases e with
    | returned u=>exact⟨⟨u,a.defers,rfl⟩,he⟩
    | panicked c=>exact he
    | outgrown=>exact he
   case row row args=>exact Rows.mono h fun u w'' he=>⟨⟨u,a.defers,rfl⟩,he⟩
  | halt x w'=>cases x <;> simp only[Oper.upon]at h ⊢ <;> exact h
 ·rename_i hw;simp only[hw]at h;exact⟨⟨undef,a.defers,rfl⟩,h⟩
def J2(P:Program)(md:Region.Mode)(ops:Array Oper)(Q:Exit→Act→World→Prop)(n:Nat):Nat→Array Bool→Act→World→Prop
 | 0,listed,a,w=>Region.ready md ops listed=[]∧∀ p:Gr w,Q .normal a p.u
 | f+1,listed,a,w=>∀ p:Gr w,(Region.ready md ops listed=[]→Q .normal a p.u)∧∀ i∈Region.ready md ops listed,wpOp P ops Q i (fun a' u=>(i=n∧Region.ready md ops (listed.setIfInBounds n true)=[]∧Q .normal a' u)∨(i≠n∧Below p.u.heap.size p.u u∧J2 P md ops Q n f (listed.setIfInBounds i true) a' u)) a p.u
theorem Nn:∀ {f:Nat} {listed:Array Bool} {a:Act} {w w':World},Below w.heap.size w w'→J2 P md ops Q n f listed a w→J2 P md ops Q n f listed a w'
 | 0,_,_,_,_,hb,h=>⟨h.1,fun p=>h.2 ⟨p.u,hb.trans (p.h.mono hb.size)⟩⟩
 | _+1,_,_,_,_,hb,h=>fun p=>h ⟨p.u,hb.trans (p.h.mono hb.size)⟩
theorem N7{P:Program}{md:Region.Mode}{ops:Array Oper}{Q:Exit→Act→World→Prop}{n:Nat}:∀(f:Nat) (listed:Array Bool) (a:Act) (w:World),J2 P md ops Q n f listed a w→wpAny P md ops Q f listed a w
 | 0,_,_,w,h=>⟨h.1,h.2 ⟨w,Below.refl _ _⟩⟩
 | f+1,listed,a,w,h=>by
  have h1:=h ⟨w,Below.refl _ _⟩;refine⟨h1.1,fun i hi=>wpOp_mono (fun a' u hu=>?_) (h1.2 i hi)⟩;rcases hu with ⟨rfl,hr,hq⟩ | ⟨_,_,hu⟩
  ·cases f with
   | zero=>exact⟨hr,hq⟩
   | succ f=>exact⟨fun _=>hq,fun j hj=>by rw[hr]at hj;cases hj⟩
  ·exact N7 f _ a' u hu
theorem Zg{fw:Nat}{oi:Oper}(hi:ops[i]?=some oi)(hsel:∀ (j:Nat) (o:Oper) cs b,ops[j]?=some o→o.op≠.select cs b)(hwait:Jt md ops fw n i=true∨ops.size≤n)
  (hQ:∀ c a w,Q (.panic c) (a.put oi.dst v) w→Q (.panic c) a w) :
  ∀(fuel:Nat) (listed:Array Bool) (a:Act) (w:World),Er md ops listed →
   (∀ j oj,ops[j]?=some oj→j≠i→listed.getD j true=false→(∀ e∈oj.after,Region.binds md e=true→e.on≠i)→oi.apart ops oj=true) →
   i∈Region.ready md ops listed→El P ops w oi v a →
   J2 P md ops Q n fuel (listed.setIfInBounds i true) (a.put oi.dst v) w→J2 P md ops Q n (fuel+1) listed a w:=by
 have hin:∀ listed:Array Bool,Er md ops listed→i∈Region.ready md ops listed→n ∉ Region.ready md ops listed:=by
  intro listed hcl hr hn;rcases hwait with hw | hw
  ·exact Si hcl hr hw hn
  ·obtain⟨_,o,ho,_⟩:=mem_ready.1 hn;rw[Array.getElem?_eq_none hw]at ho;cases ho
 intro fuel
 induction fuel with
 | zero =>
  intro listed a w hcl _ hr hy H p;refine⟨fun h=>(by rw[h]at hr;cases hr),fun j hj=>?_⟩;by_cases hji:j=i
  ·subst hji;exact hy.wpOp hi p fun u hu=>.inr ⟨fun e=>hin listed hcl hr (e ▸ hr),hu,Nn (p.h.trans (hu.mono p.h.size)) H⟩
  ·have:=ready_mono hj hji;rw[H.1]at this;cases this
 | succ fuel ih =>
  intro listed a w hcl hfree hr hy H p;refine⟨fun h=>(by rw[h]at hr;cases hr),fun j hj=>?_⟩;by_cases hji:j=i
  ·subst hji;exact hy.wpOp hi p fun u hu=>.inr ⟨fun e=>hin listed hcl hr (e ▸ hr),hu,Nn (p.h.trans (hu.mono p.h.size)) H⟩
  ·have h1:=(H p).2 j (ready_mono hj hji);obtain⟨hjun,oj,hoj,hall⟩:=mem_ready.1 hj;have hjn:j≠n:=fun e=>hin listed hcl hr (e ▸ hj)
   have hnot:∀ e∈oj.after,Region.binds md e=true→e.on≠i:=fun e he hb heq=>by
    have h1:=hall e he hb;rw[heq,Ko hr]at h1;cases h1
   have hap:=hfree j oj hoj hji hjun hnot;obtain⟨q1,q2,q3⟩:=Oper.apart_spec hap;have h2:=wpOp_putIf (S:=fun _=>False) hoj hap (fun cs b=>hsel i oi cs b hi) (fun cs b=>hsel j oj cs b hoj) hQ (hy.imp (fun h=>⟨h.1,fun _ hf=>hf.elim⟩) id) h1
   have hfree':∀ k ok,ops[k]?=some ok→k≠i→(listed.setIfInBounds j true).getD k true=false →
     (∀ e∈ok.after,Region.binds md e=true→e.on≠i)→oi.apart ops ok=true:=fun k ok hk hki hun hno=>by
    refine hfree k ok hk hki ?_ hno;by_cases hjk:j=k
    ·subst hjk;exact hjun
    ·rw[getD_set_ne true hjk]at hun;exact hun
   refine wpOp_mono (fun a' u h3=>?_) (Zf hoj h2);obtain⟨⟨x,d,rfl⟩,_,h4⟩:=h3;rcases h4 with ⟨e,_⟩ | ⟨_,hb,h5⟩
   ·exact absurd e hjn
   ·refine .inr ⟨hjn,hb,ih (listed.setIfInBounds j true) _ u (hcl.step hj) hfree' (ready_mono hr (Ne.symm hji)) ?_ ?_⟩
    ·have hy':El P ops w oi v { a with defers:=d }:=hy.same rfl rfl;exact(hy'.same (execOp_put oi (fun cs b=>hsel i oi cs b hi) _ oj.dst x q3) (wanted_put oi _ oj.dst x q3)).up (p.h.trans (hb.mono p.h.size))
    ·rw[Array.setIfInBounds_comm _ _ hji];exact h5
def Gg(P:Program)(ops:Array Oper)(w:World)(Q:Act→Prop):List Oper→Act→Prop
 | [],a=>Q a
 | o::rest,a=>if Region.wanted o (yielded ops a.tmps) then ∃ v,(∀ p:Gr w,o.quietAt P a (fun u=>Below p.u.heap.size p.u u) p.u v)∧Gg P ops w Q rest (a.put o.dst v) else Gg P ops w Q rest (a.put o.dst undef)
theorem Dg{Q:Act→Prop}{rest:List Oper}(h:∀ K:Act→Prop,(∀ a,Gg P ops w Q rest a→K a)→if Region.wanted o (yielded ops a.tmps) then ∃ v,(∀ p:Gr w,o.quietAt P a (fun u=>Below p.u.heap.size p.u u) p.u v)∧K (a.put o.dst v) else K (a.put o.dst undef)):Gg P ops w Q (o::rest) a:=h _ (fun _ h=>h)
theorem Gh{Q:Act→Prop}(h:Q a):Gg P ops w Q [] a:=h
def Th(md:Region.Mode)(ops:Array Oper)(n:Nat):List Nat→Array Bool→Bool
 | [],_=>true
 | k::ks,listed=>(Region.ready md ops listed).contains k && Region.free md ops listed k && (Jt md ops 40 n k || ops.size≤n) && Th md ops n ks (listed.setIfInBounds k true)
def Ti:List Nat→Array Bool→Array Bool
 | [],listed=>listed
 | k::ks,listed=>Ti ks (listed.setIfInBounds k true)
theorem Zh(hs:Region.noSelect ops=true)(hQ:∀ (d:Option Tmp) v c a w,Q (.panic c) (a.put d v) w→Q (.panic c) a w)(ks:List Nat):∀(l:List Oper) (f:Nat) (listed:Array Bool) (a:Act),ks.map (fun k=>ops[k]?)=l.map some→Er md ops listed→Th md ops n ks listed=true→Gg P ops w (fun a'=>J2 P md ops Q n f (Ti ks listed) a' w) l a→J2 P md ops Q n (f+ks.length) listed a w:=by
 induction ks with
 | nil =>
  intro l f listed a hl _ _ h;cases l with
  | nil=>exact h
  | cons o l=>simp at hl
 | cons k ks ih =>
  intro l f listed a hl hc hB h;cases l with
  | nil=>simp at hl
  | cons o l =>
   simp only[List.map_cons,List.cons.injEq]at hl;simp only[Th,Bool.and_eq_true]at hB;obtain⟨⟨⟨hr,hf⟩,hw⟩,hB'⟩:=hB;have hr':k∈Region.ready md ops listed:=by simpa using hr
   have hw':Jt md ops 40 n k=true∨ops.size≤n:=by simpa using hw
   obtain⟨v,hy,hK⟩:∃ v,El P ops w o v a∧Gg P ops w (fun a'=>J2 P md ops Q n f (Ti ks (listed.setIfInBounds k true)) a' w) l (a.put o.dst v):=by
    unfold Gg at h;by_cases hwant:Region.wanted o (yielded ops a.tmps)=true
    ·rw[if_pos hwant]at h;obtain⟨v,hv,hK⟩:=h;exact⟨v,.inl ⟨hwant,hv⟩,hK⟩
    ·rw[if_neg hwant]at h;exact⟨undef,.inr ⟨by simpa using hwant,rfl⟩,h⟩
   have h1:=ih l f (listed.setIfInBounds k true) (a.put o.dst v) hl.2 (hc.step hr') hB' hK;rw[List.length_cons,← Nat.add_assoc];exact Zg hl.1 (Region.noSelect_spec hs) hw' (fun c a w=>hQ o.dst v c a w) (f+ks.length) listed a w hc (Region.free_spec hl.1 hf) hr' hy h1
theorem Tj(n:Nat)(hm:P.follows .mixedOrders=true)(h:J2 P .any ops Q n ops.size (Array.replicate ops.size false) a w):(Code.region id ops true).wp P Q a w :=
 wp_region_any hm (N7 _ _ _ _ (Nn ((Below.refl _ _).drew) h))
def Ix(P:Program)(md:Region.Mode)(ops:Array Oper)(Q:Exit→Act→World→Prop)(n f:Nat)(listed:Array Bool)(a:Act)(u:World)(rs:List Nat):Prop:=∀ i∈rs,wpOp P ops Q i (fun a' u'=>(i=n∧Region.ready md ops (listed.setIfInBounds n true)=[]∧Q .normal a' u')∨(i≠n∧Below u.heap.size u u'∧J2 P md ops Q n f (listed.setIfInBounds i true) a' u')) a u
theorem Ix.nil:Ix P md ops Q n f listed a u []:=fun _ h=>by cases h
theorem Ix.cons(ho:ops[i]?=some o)(hn:i≠n)
  (h:∀ K:Act→World→Prop,Shut (∀ a' u',Below u.heap.size u u'→J2 P md ops Q n f (listed.setIfInBounds i true) a' u'→K a' u')→if Region.wanted o (yielded ops a.tmps)=true then Oper.wp P o a u K Q else K (a.put o.dst undef) u)
  (hs:Ix P md ops Q n f listed a u rs):Ix P md ops Q n f listed a u (i::rs):=fun j hj=>by
 rcases List.mem_cons.1 hj with rfl | hj
 ·exact wpOp_step ho (fun K hK=>h K (fun a' u' hb hw=>hK a' u' (.inr ⟨hn,hb,hw⟩)))
 ·exact hs j hj
theorem Iy(hr:Region.ready md ops listed=rs)(hne:rs≠[])(h:∀ p:Gr w,Ix P md ops Q n f listed a p.u rs):J2 P md ops Q n (f+1) listed a w:=fun p=>⟨fun h0=>absurd (hr ▸ h0) hne,hr ▸ h p⟩
theorem Np(hr:Region.ready md ops listed=[n])(ho:ops[n]?=some o)(he:Region.ready md ops (listed.setIfInBounds n true)=[])
  (h:∀ p:Gr w,∀ K:Act→World→Prop,Shut (∀ a' u',Q .normal a' u'→K a' u')→if Region.wanted o (yielded ops a.tmps)=true then Oper.wp P o a p.u K Q else K (a.put o.dst undef) p.u):J2 P md ops Q n (f+1) listed a w:=fun p =>
 ⟨fun h0=>(by rw[hr]at h0;cases h0),fun i hi=>by
   rw[hr,List.mem_singleton]at hi;subst hi;exact wpOp_step ho (fun K hK=>h p K (fun a' u' hq=>hK a' u' (.inl ⟨rfl,he,hq⟩)))⟩
theorem Ab1(hr:Region.ready md ops listed=[])(h:∀ p:Gr w,Q .normal a p.u):∀ f,J2 P md ops Q n f listed a w
 | 0=>⟨hr,h⟩
 | _+1=>fun p=>⟨fun _=>h p,by rw[hr];simp⟩
def Mg(md:Region.Mode)(ops:Array Oper)(listed:Array Bool):Bool:=(List.range ops.size).all fun j=>match ops[j]? with
 | none=>true
 | some oj=>!(listed.getD j false) || oj.after.toList.all (fun e=>!(Region.binds md e) || listed.getD e.on false)
theorem Nq(h:Mg md ops listed=true):Er md ops listed:=by
 intro j oj hoj hl e he hb;have hj:j<ops.size:=(Array.getElem?_eq_some_iff.1 hoj).1;have:=List.all_eq_true.1 h j (List.mem_range.2 hj);rw[hoj]at this;simp only[hl,Bool.not_true,Bool.false_or]at this;have:=List.all_eq_true.1 this e (by simpa using he);simpa [hb] using this
def Ig{α:Type}:List Bool→List α→List α
 | true::m,o::l=>o::Ig m l
 | false::m,_::l=>Ig m l
 | _,_=>[]
theorem Ba(m:List Bool)(o:α)(l:List α):Ig (true::m) (o::l)=o::Ig m l:=rfl
theorem Bb(m:List Bool)(o:α)(l:List α):Ig (false::m) (o::l)=Ig m l:=rfl
theorem A9(l:List α):Ig [] l=[]:=by cases l <;> rfl
def J3:List Bool→Nat→List Nat
 | [],_=>[]
 | true::m,k=>k::J3 m (k+1)
 | false::m,k=>J3 m (k+1)
theorem Mh{α:Type}(A:List α):∀(m:List Bool) (l C:List α),A=C++l→m.length=l.length→(J3 m C.length).map (fun k=>A[k]?)=(Ig m l).map some
 | [],l,C,_,hl=>by
  rw[A9];rfl
 | b::m,[],C,_,hl=>by simp at hl
 | b::m,o::l,C,hA,hl=>by
  have ih:=Mh A m l (C++[o]) (by rw[hA];simp) (by simpa using hl);rw[List.length_append,List.length_singleton]at ih;cases b with
  | false=>exact ih
  | true =>
   show A[C.length]?::_=some o::_
   rw[ih,hA];simp
theorem Jf{l:List Oper}(m:List Bool)(f:Nat)(hF:F=f+(J3 m 0).length)(hB:(m.length == l.length && Region.noSelect l.toArray && Mg md l.toArray listed && Th md l.toArray n (J3 m 0) listed)=true)
  (h:Gg P l.toArray w (fun a'=>J2 P md l.toArray (NoPanic Q) n f (Ti (J3 m 0) listed) a' w) (Ig m l) a):J2 P md l.toArray (NoPanic Q) n F listed a w:=by
 simp only[Bool.and_eq_true,beq_iff_eq]at hB;obtain⟨⟨⟨h1,h2⟩,h3⟩,h4⟩:=hB;subst hF;refine Zh h2 (fun _ _ _ _ _ h=>h) (J3 m 0) (Ig m l) f listed a ?_ (Nq h3) h4 h;have:=Mh l m l [] rfl h1;simpa using this
theorem Hb{l:List Oper}(n F:Nat)(hm:P.follows .mixedOrders=true)(hF:l.length=F)(h:J2 P .any l.toArray (NoPanic Q) n F (Array.replicate F false) a w):(Code.region id l.toArray true).wp P Q a w:=by
 subst hF;exact wp_region_noPanic (Tj n hm h)
def Ek(P:Program)(md:Region.Mode)(ops:Array Oper)(Q:Exit→Act→World→Prop)(S:World→Prop)(n:Nat):Nat→Array Bool→Act→World→Prop
 | 0,listed,a,w=>Region.ready md ops listed=[]∧Q .normal a w
 | f+1,listed,a,w=>(Region.ready md ops listed=[]→Q .normal a w)∧∀ i∈Region.ready md ops listed,wpOp P ops Q i (fun a' u=>(i=n∧Region.ready md ops (listed.setIfInBounds n true)=[]∧Q .normal a' u)∨(i≠n∧S u∧Ek P md ops Q S n f (listed.setIfInBounds i true) a' u)) a w
theorem I8{P:Program}{md:Region.Mode}{ops:Array Oper}{Q:Exit→Act→World→Prop}{S:World→Prop}{n:Nat}:∀(f:Nat) (listed:Array Bool) (a:Act) (w:World),Ek P md ops Q S n f listed a w→wpAny P md ops Q f listed a w
 | 0,_,_,_,h=>h
 | f+1,listed,a,w,h=>by
  refine⟨h.1,fun i hi=>wpOp_mono (fun a' u hu=>?_) (h.2 i hi)⟩;rcases hu with ⟨rfl,hr,hq⟩ | ⟨_,_,hu⟩
  ·cases f with
   | zero=>exact⟨hr,hq⟩
   | succ f=>exact⟨fun _=>hq,fun j hj=>by rw[hr]at hj;cases hj⟩
  ·exact I8 f _ a' u hu
theorem Tk{S:World→Prop}{fw:Nat}{oi:Oper}(hi:ops[i]?=some oi)(hsel:∀ (j:Nat) (o:Oper) cs b,ops[j]?=some o→o.op≠.select cs b)(hwait:Jt md ops fw n i=true∨ops.size≤n)
  (hQ:∀ c a w,Q (.panic c) (a.put oi.dst v) w→Q (.panic c) a w) :
  ∀(fuel:Nat) (listed:Array Bool) (a:Act) (w:World),Er md ops listed →
   (∀ j oj,ops[j]?=some oj→j≠i→listed.getD j true=false→(∀ e∈oj.after,Region.binds md e=true→e.on≠i)→oi.apart ops oj=true) →
   i∈Region.ready md ops listed→YieldsIf P ops S oi v a→S w →
   Ek P md ops Q S n fuel (listed.setIfInBounds i true) (a.put oi.dst v) w→Ek P md ops Q S n (fuel+1) listed a w:=by
 have hin:∀ listed:Array Bool,Er md ops listed→i∈Region.ready md ops listed→n ∉ Region.ready md ops listed:=by
  intro listed hcl hr hn;rcases hwait with hw | hw
  ·exact Si hcl hr hw hn
  ·obtain⟨_,o,ho,_⟩:=mem_ready.1 hn;rw[Array.getElem?_eq_none hw]at ho;cases ho
 intro fuel
 induction fuel with
 | zero =>
  intro listed a w hcl _ hr hy hS H;refine⟨fun h=>(by rw[h]at hr;cases hr),fun j hj=>?_⟩;by_cases hji:j=i
  ·subst hji;exact hy.wpOp hi hS (.inr ⟨fun e=>hin listed hcl hr (e ▸ hr),hS,H⟩)
  ·have:=ready_mono hj hji;rw[H.1]at this;cases this
 | succ fuel ih =>
  intro listed a w hcl hfree hr hy hS H;refine⟨fun h=>(by rw[h]at hr;cases hr),fun j hj=>?_⟩;by_cases hji:j=i
  ·subst hji;exact hy.wpOp hi hS (.inr ⟨fun e=>hin listed hcl hr (e ▸ hr),hS,H⟩)
  ·have h1:=H.2 j (ready_mono hj hji);obtain⟨hjun,oj,hoj,hall⟩:=mem_ready.1 hj;have hjn:j≠n:=fun e=>hin listed hcl hr (e ▸ hj)
   have hnot:∀ e∈oj.after,Region.binds md e=true→e.on≠i:=fun e he hb heq=>by
    have h1:=hall e he hb;rw[heq,Ko hr]at h1;cases h1
   have hap:=hfree j oj hoj hji hjun hnot;have h2:=wpOp_putIf hoj hap (fun cs b=>hsel i oi cs b hi) (fun cs b=>hsel j oj cs b hoj) hQ hy h1
   have hfree':∀ k ok,ops[k]?=some ok→k≠i→(listed.setIfInBounds j true).getD k true=false →
     (∀ e∈ok.after,Region.binds md e=true→e.on≠i)→oi.apart ops ok=true:=fun k ok hk hki hun hno=>by
    refine hfree k ok hk hki ?_ hno;by_cases hjk:j=k
    ·subst hjk;exact hjun
    ·rw[getD_set_ne true hjk]at hun;exact hun
   refine wpOp_mono (fun a' u h3=>?_) h2;obtain⟨h3,h4⟩:=h3;rcases h4 with ⟨e,_⟩ | ⟨_,hb,h5⟩
   ·exact absurd e hjn
   ·refine .inr ⟨hjn,hb,ih (listed.setIfInBounds j true) _ u (hcl.step hj) hfree' (ready_mono hr (Ne.symm hji)) h3 hb ?_⟩;rw[Array.setIfInBounds_comm _ _ hji];exact h5
def Fa(P:Program)(ops:Array Oper)(S:World→Prop)(Q:Act→Prop):List Oper→Act→Prop
 | [],a=>Q a
 | o::rest,a=>if Region.wanted o (yielded ops a.tmps) then ∃ v,(∀ p:{ w:World // S w },(execOp a.eval o).run P p.1=.ok (.value v) p.1)∧Fa P ops S Q rest (a.put o.dst v) else Fa P ops S Q rest (a.put o.dst undef)
theorem Ak{S:World→Prop}{Q:Act→Prop}{rest:List Oper}(h:∀ K:Act→Prop,(∀ a,Fa P ops S Q rest a→K a)→if Region.wanted o (yielded ops a.tmps) then ∃ v,(∀ p:{ w:World // S w },(execOp a.eval o).run P p.1=.ok (.value v) p.1)∧K (a.put o.dst v) else K (a.put o.dst undef)):Fa P ops S Q (o::rest) a:=h _ (fun _ h=>h)
theorem Ao{S:World→Prop}{Q:Act→Prop}(h:Q a):Fa P ops S Q [] a:=h
theorem Mi{S:World→Prop}(hs:Region.noSelect ops=true)(hQ:∀ (d:Option Tmp) v c a w,Q (.panic c) (a.put d v) w→Q (.panic c) a w)(hS:S w)(ks:List Nat):∀(l:List Oper) (f:Nat) (listed:Array Bool) (a:Act),ks.map (fun k=>ops[k]?)=l.map some→Er md ops listed→Th md ops n ks listed=true→Fa P ops S (fun a'=>Ek P md ops Q S n f (Ti ks listed) a' w) l a→Ek P md ops Q S n (f+ks.length) listed a w:=by
 induction ks with
 | nil =>
  intro l f listed a hl _ _ h;cases l with
  | nil=>exact h
  | cons o l=>simp at hl
 | cons k ks ih =>
  intro l f listed a hl hc hB h;cases l with
  | nil=>simp at hl
  | cons o l =>
   simp only[List.map_cons,List.cons.injEq]at hl;simp only[Th,Bool.and_eq_true]at hB;obtain⟨⟨⟨hr,hf⟩,hw⟩,hB'⟩:=hB;have hr':k∈Region.ready md ops listed:=by simpa using hr
   have hw':Jt md ops 40 n k=true∨ops.size≤n:=by simpa using hw
   obtain⟨v,hy,hK⟩:∃ v,YieldsIf P ops S o v a∧Fa P ops S (fun a'=>Ek P md ops Q S n f (Ti ks (listed.setIfInBounds k true)) a' w) l (a.put o.dst v):=by
    unfold Fa at h;by_cases hwant:Region.wanted o (yielded ops a.tmps)=true
    ·rw[if_pos hwant]at h;obtain⟨v,hv,hK⟩:=h;exact⟨v,.inl ⟨hwant,fun w hw=>hv ⟨w,hw⟩⟩,hK⟩
    ·rw[if_neg hwant]at h;exact⟨undef,.inr ⟨by simpa using hwant,rfl⟩,h⟩
   have h1:=ih l f (listed.setIfInBounds k true) (a.put o.dst v) hl.2 (hc.step hr') hB' hK;rw[List.length_cons,← Nat.add_assoc];exact Tk hl.1 (Region.noSelect_spec hs) hw' (fun c a w=>hQ o.dst v c a w) (f+ks.length) listed a w hc (Region.free_spec hl.1 hf) hr' hy hS h1
theorem Ay{S:World→Prop}{l:List Oper}(m:List Bool)(f:Nat)(hF:F=f+(J3 m 0).length)(hB:(m.length == l.length && Region.noSelect l.toArray && Mg md l.toArray listed && Th md l.toArray n (J3 m 0) listed)=true)(hS:S w)
  (h:Fa P l.toArray S (fun a'=>Ek P md l.toArray (NoPanic Q) S n f (Ti (J3 m 0) listed) a' w) (Ig m l) a):Ek P md l.toArray (NoPanic Q) S n F listed a w:=by
 simp only[Bool.and_eq_true,beq_iff_eq]at hB;obtain⟨⟨⟨h1,h2⟩,h3⟩,h4⟩:=hB;subst hF;refine Mi h2 (fun _ _ _ _ _ h=>h) hS (J3 m 0) (Ig m l) f listed a ?_ (Nq h3) h4 h;have:=Mh l m l [] rfl h1;simpa using this
theorem A0{S:World→Prop}{l:List Oper}(n F:Nat)(hm:P.follows .mixedOrders=true)(hF:l.length=F)(h:Ek P .any l.toArray (NoPanic Q) S n F (Array.replicate F false) a w.drew):(Code.region id l.toArray true).wp P Q a w:=by
 subst hF;exact wp_region_noPanic (wp_region_any hm (I8 _ _ _ _ h))
def Ad(P:Program)(md:Region.Mode)(ops:Array Oper)(Q:Exit→Act→World→Prop)(S:World→Prop)(n f:Nat)(listed:Array Bool)(a:Act)(u:World)(rs:List Nat):Prop:=∀ i∈rs,wpOp P ops Q i (fun a' u'=>(i=n∧Region.ready md ops (listed.setIfInBounds n true)=[]∧Q .normal a' u')∨(i≠n∧S u'∧Ek P md ops Q S n f (listed.setIfInBounds i true) a' u')) a u
theorem Ad.nil{S:World→Prop}:Ad P md ops Q S n f listed a u []:=fun _ h=>by cases h
theorem Ad.cons{S:World→Prop}(ho:ops[i]?=some o)(hn:i≠n)
  (h:∀ K:Act→World→Prop,Shut (∀ a' u',S u'→Ek P md ops Q S n f (listed.setIfInBounds i true) a' u'→K a' u')→if Region.wanted o (yielded ops a.tmps)=true then Oper.wp P o a u K Q else K (a.put o.dst undef) u)
  (hs:Ad P md ops Q S n f listed a u rs):Ad P md ops Q S n f listed a u (i::rs):=fun j hj=>by
 rcases List.mem_cons.1 hj with rfl | hj
 ·exact wpOp_step ho (fun K hK=>h K (fun a' u' hb hw=>hK a' u' (.inr ⟨hn,hb,hw⟩)))
 ·exact hs j hj
theorem Ac{S:World→Prop}(hr:Region.ready md ops listed=rs)(hne:rs≠[])(h:Ad P md ops Q S n f listed a w rs):Ek P md ops Q S n (f+1) listed a w:=⟨fun h0=>absurd (hr ▸ h0) hne,hr ▸ h⟩
theorem A5{S:World→Prop}(hr:Region.ready md ops listed=[n])(ho:ops[n]?=some o)(he:Region.ready md ops (listed.setIfInBounds n true)=[])
  (h:∀ K:Act→World→Prop,Shut (∀ a' u',Q .normal a' u'→K a' u')→if Region.wanted o (yielded ops a.tmps)=true then Oper.wp P o a w K Q else K (a.put o.dst undef) w):Ek P md ops Q S n (f+1) listed a w :=
 ⟨fun h0=>(by rw[hr]at h0;cases h0),fun i hi=>by
   rw[hr,List.mem_singleton]at hi;subst hi;exact wpOp_step ho (fun K hK=>h K (fun a' u' hq=>hK a' u' (.inl ⟨rfl,he,hq⟩)))⟩
variable {Inv:(Nat → Bool) → Act → World → Prop}{W W':World}
def Ef(L:Nat→Bool)(i:Nat):Nat→Bool:=fun j=>if j=i then true else L j
def E1(md:Region.Mode)(ops:Array Oper)(i:Nat):List Nat:=match ops[i]? with
 | none=>[]
 | some o=>(o.after.toList.filter (fun e=>Region.binds md e)).map (fun e=>e.on)
def Am(P:Program)(md:Region.Mode)(ops:Array Oper)(Q:Exit→Act→World→Prop)(Inv:(Nat→Bool)→Act→World→Prop)(n:Nat)(is:List Nat):Prop:=∀ i∈is,∀(L:Nat→Bool) (a:Act) (w:World),L i=false→(∀ j∈E1 md ops i,L j=true)→Inv L a w→wpOp P ops Q i (fun a' u=>if i=n then Q .normal a' u else Inv (Ef L i) a' u) a w
theorem Am.nil:Am P md ops Q Inv n []:=fun _ h=>by cases h
theorem Am.cons{is:List Nat}(js:List Nat)(ho:ops[i]?=some o)(hn:i≠n)(hp:E1 md ops i=js)
  (h:∀(L:Nat→Bool) (a:Act) (w:World),L i=false→(∀ j∈js,L j=true)→Inv L a w→∀ K:Act→World→Prop,Shut (∀ a' u',Inv (Ef L i) a' u'→K a' u')→if Region.wanted o (yielded ops a.tmps)=true then Oper.wp P o a w K Q else K (a.put o.dst undef) w)
  (hs:Am P md ops Q Inv n is):Am P md ops Q Inv n (i::is):=fun j hj=>by
 rcases List.mem_cons.1 hj with rfl | hj
 ·intro L a w h0 h1 h2;exact wpOp_step ho (fun K hK=>h L a w h0 (hp ▸ h1) h2 K (fun a' u' hi=>hK a' u' (by rw[if_neg hn];exact hi)))
 ·exact hs j hj
theorem Am.last(js:List Nat)(ho:ops[n]?=some o)(hp:E1 md ops n=js)
  (h:∀(L:Nat→Bool) (a:Act) (w:World),L n=false→(∀ j∈js,L j=true)→Inv L a w→∀ K:Act→World→Prop,Shut (∀ a' u',Q .normal a' u'→K a' u')→if Region.wanted o (yielded ops a.tmps)=true then Oper.wp P o a w K Q else K (a.put o.dst undef) w):Am P md ops Q Inv n [n]:=fun j hj=>by
 rw[List.mem_singleton]at hj;subst hj;intro L a w h0 h1 h2;exact wpOp_step ho (fun K hK=>h L a w h0 (hp ▸ h1) h2 K (fun a' u' hq=>hK a' u' (by rw[if_pos rfl];exact hq)))
def Ab5(md:Region.Mode)(ops:Array Oper)(n:Nat):Bool:=(List.range ops.size).all (fun i=>(E1 md ops i).all (fun j=>decide (j<i))) && (List.range ops.size).all (fun j=>j == n || ((E1 md ops n).contains j || (E1 md ops n).any (fun m=>(E1 md ops m).contains j))) && decide (n<ops.size)
def Wx(listed:Array Bool):Nat:=listed.toList.countP (fun b=>!b)
theorem Ju(ho:ops[i]?=some o):j∈E1 md ops i↔∃ e∈o.after,Region.binds md e=true∧e.on=j:=by
 unfold E1;rw[ho];simp only[List.mem_map,List.mem_filter,Array.mem_toList_iff];constructor
 ·rintro⟨e,⟨h1,h2⟩,h3⟩;exact⟨e,h1,h2,h3⟩
 ·rintro⟨e,h1,h2,h3⟩;exact⟨e,⟨h1,h2⟩,h3⟩
theorem Ih(h:j<listed.size)(a b:Bool):listed.getD j a=listed.getD j b:=by simp[h]
theorem Wy(hs:listed.size=ops.size)(hlow:∀ i,i<ops.size→∀ j∈E1 md ops i,j<i):∀ j,j<ops.size→listed.getD j true=false→∃ i,i∈Region.ready md ops listed:=by
 intro j
 induction j using Nat.strongRecOn with
 | _ j ih =>
  intro hj h0;by_cases hall:∀ k∈E1 md ops j,listed.getD k true=true
  ·refine⟨j,mem_ready.2 ⟨h0,ops[j],Array.getElem?_eq_getElem hj,fun e he hb=>?_⟩⟩;have hm:e.on∈E1 md ops j:=(Ju (Array.getElem?_eq_getElem hj)).2 ⟨e,he,hb,rfl⟩;have hl:=hlow j hj _ hm;rw[Ih (by omega) false true];exact hall _ hm
  ·simp only[Classical.not_forall,Bool.not_eq_true]at hall;obtain⟨k,hk,h1⟩:=hall;have hl:=hlow j hj k hk;exact ih k hl (by omega) h1
theorem Tl(hi:i<listed.size)(h:listed.getD i true=false):Wx listed=Wx (listed.setIfInBounds i true)+1:=by
 unfold Wx;rw[Array.toList_setIfInBounds];have hl:i<listed.toList.length:=by simpa using hi
 have h1:listed.toList[i]=false:=by simpa [hi] using h
 rw[List.countP_set hl,h1];have:0<listed.toList.countP (fun b=>!b):=List.countP_pos_iff.2 ⟨false,h1 ▸ List.getElem_mem hl,rfl⟩;simp only[Bool.not_false,if_true,Bool.not_true,Bool.false_eq_true,if_false];omega
theorem Lv(hi:i<listed.size):(fun j=>(listed.setIfInBounds i true).getD j true)=Ef (fun j=>listed.getD j true) i:=by
 funext j
 unfold Ef;by_cases h:j=i
 ·subst h;simp[hi]
 ·rw[if_neg h,getD_set_ne true (Ne.symm h)]
theorem Ab6(hB:Ab5 md ops n=true)(hall:Am P md ops Q Inv n (List.range ops.size)):
  ∀(f:Nat) (listed:Array Bool) (a:Act) (w:World),Er md ops listed→listed.size=ops.size→listed.getD n true=false→Wx listed=f→Inv (fun j=>listed.getD j true) a w→wpAny P md ops Q f listed a w:=by
 unfold Ab5 at hB;simp only[Bool.and_eq_true,List.all_eq_true,List.mem_range,decide_eq_true_eq,Bool.or_eq_true,beq_iff_eq,List.contains_iff_mem,List.any_eq_true]at hB;obtain⟨⟨hlow,hcov⟩,hn⟩:=hB;intro f
 induction f with
 | zero =>
  intro listed a w _ hs h0 hu _;rw[Tl (by omega) h0]at hu;omega
 | succ f ih =>
  intro listed a w hcl hs h0 hu hI;refine⟨fun hr=>?_,fun i hi=>?_⟩
  ·obtain⟨i,hi⟩:=Wy hs hlow n hn h0;rw[hr]at hi;cases hi
  ·obtain⟨hiun,o,ho,hpre⟩:=mem_ready.1 hi;have hil:i<ops.size:=(Array.getElem?_eq_some_iff.1 ho).1;have hL:∀ j∈E1 md ops i,listed.getD j true=true:=by
    intro j hj;obtain⟨e,he,hb,rfl⟩:=(Ju ho).1 hj;have:=hlow i hil _ hj;rw[Ih (by omega) true false];exact hpre e he hb
   refine wpOp_mono (fun a' u hu'=>?_) (hall i (List.mem_range.2 hil) _ a w hiun hL hI);have hset:=Tl (by omega) hiun;by_cases hin:i=n
   ·subst hin;rw[if_pos rfl]at hu';have hz:∀ j,(listed.setIfInBounds i true).getD j true=true:=by
     intro j;have:=congrFun (Lv (listed:=listed) (i:=i) (by omega)) j;rw[this];unfold Ef;split
     ·rfl
     ·rename_i hne;by_cases hj:j<ops.size
      ·rcases hcov j hj with e | hm | ⟨m,hm1,hm2⟩
       ·exact absurd e hne
       ·exact hL j hm
       ·have hml:=hL m hm1;have hmi:=hlow i hil m hm1;have hms:m<ops.size:=by omega
        obtain⟨e,he,hb,rfl⟩:=(Ju (Array.getElem?_eq_getElem hms)).1 hm2;have:=hcl m ops[m] (Array.getElem?_eq_getElem hms) (by rw[Ih (by omega) false true];exact hml) e he hb;show listed.getD e.on true=true
        rw[Ih (show e.on<listed.size by omega) true false];exact this
      ·have:listed.size≤j:=by omega
       simp[this]
    have hrd:Region.ready md ops (listed.setIfInBounds i true)=[]:=by
     rw[List.eq_nil_iff_forall_not_mem];intro j hj;have:=(mem_ready.1 hj).1;rw[hz j]at this;cases this
    cases f with
    | zero=>exact⟨hrd,hu'⟩
    | succ f=>exact⟨fun _=>hu',fun j hj=>by rw[hrd]at hj;cases hj⟩
   ·rw[if_neg hin]at hu';refine ih _ _ _ (hcl.step hi) (by simpa using hs) ?_ (by omega) (by rw[Lv (by omega)];exact hu');rw[getD_set_ne true hin];exact h0
theorem Aa0(F:Nat):Wx (Array.replicate F false)=F:=by unfold Wx;rw[Array.toList_replicate,List.countP_replicate];rfl
theorem Lh{l:List Oper}(Inv:(Nat→Bool)→Act→World→Prop)(n F:Nat)(is:List Nat)(hm:P.follows .mixedOrders=true)(hF:l.length=F)(his:List.range F=is)(hB:Ab5 .any l.toArray n=true)(start:Inv (fun j=>decide (F≤j)) a w.drew)(hall:Am P .any l.toArray (NoPanic Q) Inv n is):(Code.region id l.toArray true).wp P Q a w:=by
 subst hF his;refine wp_region_noPanic (wp_region_any hm ?_);have hn:n<l.length:=by unfold Ab5 at hB;simp only[Bool.and_eq_true,decide_eq_true_eq,List.size_toArray]at hB;exact hB.2
 refine Ab6 hB (by simpa using hall) _ _ _ _ (Er.start _ _ _) (by simp) (by simp[hn]) (by rw[Aa0]) ?_;have:(fun j=>(Array.replicate l.toArray.size false).getD j true)=fun j=>decide (l.length≤j):=by
  funext j
  by_cases hj:j<l.length
  ·simp[hj]
  ·simp[hj];omega
 rw[this];exact start
def Bm(A:(Nat→Value)→Act)(F:Nat→Value→World→Prop)(G:(Nat→Bool)→World→Prop)(L:Nat→Bool)(a:Act)(W:World):Prop:=∃ v:Nat→Value,a=A v∧(∀ i,L i=true→F i (v i) W)∧G L W
theorem Bm.next{A:(Nat→Value)→Act}{F:Nat→Value→World→Prop}{G:(Nat→Bool)→World→Prop}{L:Nat→Bool}{v:Nat→Value}(h:∀ i,L i=true→F i (v i) W)(i:Nat)(x:Value)(ha:a'=A (fun j=>if j=i then x else v j))(hkeep:∀ j y,F j y W→F j y W')(hi:F i x W')(hG:G (Ef L i) W'):Bm A F G (Ef L i) a' W':=by
 refine⟨_,ha,fun j hj=>?_,hG⟩;by_cases e:j=i
 ·subst e;simpa using hi
 ·simp only[e,if_false];refine hkeep j _ (h j ?_);simpa [Ef,e] using hj
def Fb:List Nat→(Nat→Value)→Nat→Array Value→Array Value
 | [],_,_,t=>t
 | d::ds,v,k,t=>Fb ds v (k+1) (t.setIfInBounds d (v k))
def Aq(a:Act)(ds:List Nat)(v:Nat→Value):Act:={ a with tmps:=Fb ds v 0 a.tmps }
theorem Qj{l:List Oper}(ds:List Nat)(F0:Nat→Value→World→Prop)(G0:(Nat→Bool)→World→Prop)(n F:Nat)(is:List Nat)(hm:P.follows .mixedOrders=true)(hF:l.length=F)(his:List.range F=is)(hB:Ab5 .any l.toArray n=true)(v0:Nat→Value)(h0:a=Aq a ds v0)(h1:∀ i,F≤i→F0 i (v0 i) w.drew)(hG:G0 (fun j=>decide (F≤j)) w.drew)(hall:Am P .any l.toArray (NoPanic Q) (Bm (Aq a ds) F0 G0) n is):(Code.region id l.toArray true).wp P Q a w :=
 Lh (Bm (Aq a ds) F0 G0) n F is hm hF his hB ⟨v0,h0,fun i hi=>h1 i (by simpa using hi),hG⟩ hall
def Agh(md:Region.Mode)(ops:Array Oper):Bool:=(List.range ops.size).all (fun i=>(E1 md ops i).all (fun j=>decide (j<i)))
theorem Zj(hB:Agh md ops=true)(hall:Am P md ops Q Inv ops.size (List.range ops.size))(hend:∀ (L:Nat→Bool) (a:Act) (w:World),(∀ j,L j=true)→Inv L a w→Q .normal a w):
  ∀(f:Nat) (listed:Array Bool) (a:Act) (w:World),Er md ops listed→listed.size=ops.size→Wx listed=f→Inv (fun j=>listed.getD j true) a w→wpAny P md ops Q f listed a w:=by
 unfold Agh at hB;simp only[List.all_eq_true,List.mem_range,decide_eq_true_eq]at hB;have hlow:=hB;intro f
 induction f with
 | zero =>
  intro listed a w _ hs hu hI;have hz:∀ j,listed.getD j true=true:=by
   intro j;by_cases hj:j<listed.size
   ·have:=List.countP_eq_zero.1 hu listed[j] (by simp);simpa [hj] using this
   ·simp[Nat.le_of_not_lt hj]
  refine⟨?_,hend _ a w hz hI⟩;rw[List.eq_nil_iff_forall_not_mem];intro j hj;have:=(mem_ready.1 hj).1;rw[hz j]at this;cases this
 | succ f ih =>
  intro listed a w hcl hs hu hI;refine⟨fun hr=>?_,fun i hi=>?_⟩
  ·obtain⟨b,hb,hb2⟩:=List.countP_pos_iff.1 (show 0<listed.toList.countP (fun b=>!b) by unfold Wx at hu;omega);obtain⟨j,hj,e⟩:=List.mem_iff_getElem.1 hb;have hj':j<listed.size:=by simpa using hj
   obtain⟨i,hi⟩:=Wy hs hlow j (by omega) (by
    have e2:listed[j]=b:=by simpa using e
    simp only[hj',Array.getD_eq_getD_getElem?,Array.getElem?_eq_getElem,Option.getD_some,e2];simpa using hb2)
   rw[hr]at hi;cases hi
  ·obtain⟨hiun,o,ho,hpre⟩:=mem_ready.1 hi;have hil:i<ops.size:=(Array.getElem?_eq_some_iff.1 ho).1;have hL:∀ j∈E1 md ops i,listed.getD j true=true:=by
    intro j hj;obtain⟨e,he,hb,rfl⟩:=(Ju ho).1 hj;have:=hlow i hil _ hj;rw[Ih (by omega) true false];exact hpre e he hb
   refine wpOp_mono (fun a' u hu'=>?_) (hall i (List.mem_range.2 hil) _ a w hiun hL hI);have hset:=Tl (by omega) hiun;rw[if_neg (by omega)]at hu';exact ih _ _ _ (hcl.step hi) (by simpa using hs) (by omega) (by rw[Lv (by omega)];exact hu')
theorem Qk{l:List Oper}(ds:List Nat)(F0:Nat→Value→World→Prop)(G0:(Nat→Bool)→World→Prop)(F:Nat)(is:List Nat)(hm:P.follows .mixedOrders=true)(hF:l.length=F)(his:List.range F=is)(hB:Agh .any l.toArray=true)(v0:Nat→Value)(h0:a=Aq a ds v0)(h1:∀ i,F≤i→F0 i (v0 i) w.drew)(hG:G0 (fun j=>decide (F≤j)) w.drew)(hall:Am P .any l.toArray (NoPanic Q) (Bm (Aq a ds) F0 G0) F is)(hend:∀ (v:Nat→Value) (w':World) (L:Nat→Bool),(∀ j,L j=true)→(∀ i,F0 i (v i) w')→G0 L w'→NoPanic Q .normal (Aq a ds v) w'):(Code.region id l.toArray true).wp P Q a w:=by
 subst hF his;refine wp_region_noPanic (wp_region_any hm ?_);refine Zj (Inv:=Bm (Aq a ds) F0 G0) hB (by simpa using hall) (fun L a' w' hL ⟨v,e,hv,hg⟩=>by rw[e];exact hend v w' L hL (fun i=>hv i (hL i)) hg) _ _ _ _ (Er.start _ _ _) (by simp) (by rw[Aa0]) ?_;have:(fun j=>(Array.replicate l.toArray.size false).getD j true)=fun j=>decide (l.length≤j):=by
  funext j
  by_cases hj:j<l.length
  ·simp[hj]
  ·simp[hj];omega
 rw[this];exact⟨v0,h0,fun i hi=>h1 i (by simpa using hi),hG⟩
theorem Sk:∀(ds:List Nat) (t:Array Value) (k:Nat) (v:Nat→Value),(∀ j,j<ds.length→v (k+j)=t.getD (ds.getD j 0) undef)→Fb ds v k t=t
 | [],_,_,_,_=>rfl
 | d::ds,t,k,v,h=>by
  have h0:v k=t.getD d undef:=by simpa using h 0 (by simp)
  have e:t.setIfInBounds d (v k)=t:=by
   rw[h0];by_cases hd:d<t.size
   ·refine Array.ext (by simp) fun i h1 h2=>?_
    rw[Array.getElem_setIfInBounds];split
    ·rename_i e;subst e;simp
    ·rfl
   ·rw[Array.setIfInBounds_eq_of_size_le (by omega)]
  unfold Fb;rw[e];refine Sk ds t (k+1) v fun j hj=>?_
  have:=h (j+1) (by simpa using hj);rw[show k+(j+1)=k+1+j by omega]at this;simpa using this
theorem Sl(a:Act)(ds:List Nat):a=Aq a ds (fun i=>a.tmps.getD (ds.getD i 0) undef):=by
 unfold Aq;rw[Sk ds a.tmps 0 _ (fun j _=>by rw[Nat.zero_add])]
theorem J1{l:List Oper}(ds:List Nat)(F0:Nat→Value→World→Prop)(G0:(Nat→Bool)→World→Prop)(F:Nat)(is:List Nat)(hm:P.follows .mixedOrders=true)(hF:l.length=F)(his:List.range F=is)(hB:Agh .any l.toArray=true)(h1:∀ i x W,F≤i→F0 i x W)(hG:G0 (fun j=>decide (F≤j)) w.drew)(hall:Am P .any l.toArray (NoPanic Q) (Bm (Aq a ds) F0 G0) F is)(hend:∀ (v:Nat→Value) (w':World) (L:Nat→Bool),(∀ j,L j=true)→(∀ i,F0 i (v i) w')→G0 L w'→NoPanic Q .normal (Aq a ds v) w'):(Code.region id l.toArray true).wp P Q a w :=
 Qk ds F0 G0 F is hm hF his hB _ (Sl a ds) (fun i hi=>h1 i _ _ hi) hG hall hend
theorem Co{l:List Oper}(ds:List Nat)(F0:Nat→Value→World→Prop)(G0:(Nat→Bool)→World→Prop)(n F:Nat)(is:List Nat)(hm:P.follows .mixedOrders=true)(hF:l.length=F)(his:List.range F=is)(hB:Ab5 .any l.toArray n=true)(h1:∀ i x W,F≤i→F0 i x W)(hG:G0 (fun j=>decide (F≤j)) w.drew)(hall:Am P .any l.toArray (NoPanic Q) (Bm (Aq a ds) F0 G0) n is):(Code.region id l.toArray true).wp P Q a w :=
 Qj ds F0 G0 n F is hm hF his hB _ (Sl a ds) (fun i hi=>h1 i _ _ hi) hG hall
structure Df(p:Prop):Prop where
 out:p
theorem Am.consQ{is:List Nat}(js:List Nat)(ho:ops[i]?=some o)(hn:i≠n)(hp:E1 md ops i=js)(hgd:o.guard=none)
  (h:∀(Q':Exit→Act→World→Prop) (L:Nat→Bool) (a:Act) (w:World),L i=false→(∀ j∈js,L j=true)→Inv L a w→∀ K:Act→World→Prop,Shut (∀ a' u',Inv (Ef L i) a' u'→K a' u')→Df (Oper.wp P o a w K Q'))
  (hs:Am P md ops Q Inv n is):Am P md ops Q Inv n (i::is) :=
 Am.cons js ho hn hp (fun L a w h0 h1 h2 K hK=>by
  rw[if_pos (by simp[Region.wanted,hgd])];exact(h Q L a w h0 h1 h2 K hK).out) hs
theorem Am.lastQ(js:List Nat)(ho:ops[n]?=some o)(hp:E1 md ops n=js)(hgd:o.guard=none)
  (h:∀(Q':Exit→Act→World→Prop) (L:Nat→Bool) (a:Act) (w:World),L n=false→(∀ j∈js,L j=true)→Inv L a w→∀ K:Act→World→Prop,Shut (∀ a' u',Q .normal a' u'→K a' u')→Df (Oper.wp P o a w K Q')):Am P md ops Q Inv n [n] :=
 Am.last js ho hp (fun L a w h0 h1 h2 K hK=>by
  rw[if_pos (by simp[Region.wanted,hgd])];exact(h Q L a w h0 h1 h2 K hK).out)
theorem Bm.nextL{A:(Nat→Value)→Act}{F:Nat→Value→World→Prop}{G:(Nat→Bool)→World→Prop}{L:Nat→Bool}{v:Nat→Value}(h:∀ i,L i=true→F i (v i) W)(i:Nat)(x:Value)(ha:a'=A (fun j=>if j=i then x else v j))(hkeep:∀ j y,L j=true→F j y W→F j y W')(hi:F i x W')(hG:G (Ef L i) W'):Bm A F G (Ef L i) a' W':=by
 refine⟨_,ha,fun j hj=>?_,hG⟩;by_cases e:j=i
 ·subst e;simpa using hi
 ·simp only[e,if_false];have hl:L j=true:=by simpa [Ef,e] using hj
  exact hkeep j _ hl (h j hl)
variable {ds:List Nat}{d:Nat}
theorem Af(a:Act)(x:Value):a.eval (.const x)=x:=rfl
theorem Eo(a:Act)(f:FuncId):a.eval (.func f)=.func (.func f) #[] #[]:=rfl
theorem Sm:∀(ds:List Nat) (v:Nat→Value) (k:Nat) (t:Array Value),(Fb ds v k t).size=t.size
 | [],_,_,_=>rfl
 | d::ds,v,k,t=>by unfold Fb;rw[Sm];simp
theorem Ql:∀(ds:List Nat) (v:Nat→Value) (k:Nat) (t:Array Value) (s:Nat),s ∉ ds→(Fb ds v k t).getD s undef=t.getD s undef
 | [],_,_,_,_,_=>rfl
 | d::ds,v,k,t,s,h=>by
  unfold Fb;rw[Ql ds v (k+1) _ s (fun e=>h (List.mem_cons_of_mem _ e))];have hne:d≠s:=fun e=>h (by rw[e];exact List.mem_cons_self ..)
  simp[hne]
theorem Aa1:∀(ds:List Nat) (v:Nat→Value) (k:Nat) (t:Array Value) (j d:Nat),ds.Nodup→ds[j]?=some d→d<t.size→(Fb ds v k t).getD d undef=v (k+j)
 | [],_,_,_,_,_,_,h,_=>by simp at h
 | d0::ds,v,k,t,0,d,hn,h,hd=>by
  have e:d0=d:=by simpa using h
  subst e;unfold Fb;rw[Ql ds v (k+1) _ d0 (List.nodup_cons.1 hn).1];simp[hd]
 | d0::ds,v,k,t,j+1,d,hn,h,hd=>by
  unfold Fb;rw[Aa1 ds v (k+1) _ j d (List.nodup_cons.1 hn).2 (by simpa using h) (by simpa using hd),show k+1+j=k+(j+1) by omega]
theorem Sn:∀(ds:List Nat) (v:Nat→Value) (k:Nat) (t:Array Value) (d:Nat) (x:Value),d ∉ ds→(Fb ds v k t).setIfInBounds d x=Fb ds v k (t.setIfInBounds d x)
 | [],_,_,_,_,_,_=>rfl
 | d0::ds,v,k,t,d,x,h=>by
  unfold Fb;have hne:d0≠d:=fun e=>h (by rw[e];exact List.mem_cons_self ..)
  rw[Sn ds v (k+1) _ d x (fun e=>h (List.mem_cons_of_mem _ e)),Array.setIfInBounds_comm _ _ hne]
theorem So:∀(ds:List Nat) (v v':Nat→Value) (k:Nat) (t:Array Value),(∀ i,k≤i→v i=v' i)→Fb ds v k t=Fb ds v' k t
 | [],_,_,_,_,_=>rfl
 | d::ds,v,v',k,t,h=>by
  unfold Fb;rw[h k (Nat.le_refl _),So ds v v' (k+1) _ (fun i hi=>h i (by omega))]
theorem Wz:∀(ds:List Nat) (v:Nat→Value) (k:Nat) (t:Array Value) (j d:Nat) (x:Value),ds.Nodup→ds[j]?=some d→(Fb ds v k t).setIfInBounds d x=Fb ds (fun i=>if i=k+j then x else v i) k t
 | [],_,_,_,_,_,_,_,h=>by simp at h
 | d0::ds,v,k,t,0,d,x,hn,h=>by
  have e:d0=d:=by simpa using h
  subst e;unfold Fb;rw[Sn ds v (k+1) _ d0 x (List.nodup_cons.1 hn).1,Array.setIfInBounds_setIfInBounds];simp only[Nat.add_zero,if_true];exact So _ _ _ _ _ (fun i hi=>by rw[if_neg (by omega)])
 | d0::ds,v,k,t,j+1,d,x,hn,h=>by
  unfold Fb;rw[Wz ds v (k+1) _ j d x (List.nodup_cons.1 hn).2 (by simpa using h)];have e:k≠k+(j+1):=by omega
  simp only[e,if_false];rw[show k+1+j=k+(j+1) by omega]
theorem Bj{v:Nat→Value}{s:Nat}(hs:s ∉ ds):(Aq a ds v).eval (.tmp s)=a.eval (.tmp s):=Ql ds v 0 a.tmps s hs
theorem Au{v:Nat→Value}(k:Nat)(hn:ds.Nodup)(hk:ds[k]?=some d)(hd:d<a.tmps.size):(Aq a ds v).eval (.tmp d)=v k:=by
 have:=Aa1 ds v 0 a.tmps k d hn hk hd;rw[Nat.zero_add]at this;exact this
theorem Az{v:Nat→Value}(k:Nat){x:Value}(hn:ds.Nodup)(hk:ds[k]?=some d):(Aq a ds v).put (some d) x=Aq a ds (fun j=>if j=k then x else v j):=by
 have:=Wz ds v 0 a.tmps k d x hn hk;rw[Nat.zero_add]at this;show ({ (Aq a ds v) with tmps:=(Aq a ds v).tmps.setIfInBounds d x }:Act)=_
 unfold Aq;simp only[this]
def D8(R:List PanicEntry→World→Prop)(Q:Exit→Act→World→Prop):Exit→Act→World→Prop
 | .panic c,a,w=>a.defers=[]∧R c w
 | e,a,w=>Q e a w
theorem D8.normal{R:List PanicEntry→World→Prop}(h:Q .normal a w):D8 R Q .normal a w:=h
theorem D8.panic{R:List PanicEntry→World→Prop}{c:List PanicEntry}(hd:a.defers=[])(h:R c w):D8 R Q (.panic c) a w:=⟨hd,h⟩
theorem Cw{R:List PanicEntry→World→Prop}{S:World→Prop}{l:List Oper}(m:List Bool)(f:Nat)(hF:F=f+(J3 m 0).length)(hB:(m.length == l.length && Region.noSelect l.toArray && Mg md l.toArray listed && Th md l.toArray n (J3 m 0) listed)=true)(hS:S w)
  (h:Fa P l.toArray S (fun a'=>Ek P md l.toArray (D8 R Q) S n f (Ti (J3 m 0) listed) a' w) (Ig m l) a):Ek P md l.toArray (D8 R Q) S n F listed a w:=by
 simp only[Bool.and_eq_true,beq_iff_eq]at hB;obtain⟨⟨⟨h1,h2⟩,h3⟩,h4⟩:=hB;subst hF;refine Mi h2 (fun d _ _ _ _ h=>by cases d <;> exact h) hS (J3 m 0) (Ig m l) f listed a ?_ (Nq h3) h4 h
 have:=Mh l m l [] rfl h1;simpa using this
theorem Dv{R:List PanicEntry→World→Prop}{S:World→Prop}{l:List Oper}(n F:Nat)(hm:P.follows .mixedOrders=true)(hF:l.length=F)(hR:∀ c a w,a.defers=[]→R c w→Q (.panic c) a w)(h:Ek P .any l.toArray (D8 R Q) S n F (Array.replicate F false) a w.drew):(Code.region id l.toArray true).wp P Q a w:=by
 subst hF;refine Code.wp_mono (fun e a w h=>?_) (wp_region_any hm (I8 _ _ _ _ h));cases e <;> first | exact h | exact hR _ _ _ h.1 h.2
structure Ee(P:Program)(ops:Array Oper)(S:World→Prop)(Q:Act→Prop)(l:List Oper)(a:Act):Prop where
 out:Fa P ops S Q l a
theorem Ee.skip{S:World→Prop}{Q:Act→Prop}{rest:List Oper}(hw:Region.wanted o (yielded ops a.tmps)=false)(h:Ee P ops S Q rest (a.put o.dst undef)):Ee P ops S Q (o::rest) a :=
 ⟨Ak (fun K hK=>by rw[if_neg (by rw[hw];simp)];exact hK _ h.out)⟩
theorem Ee.step{S:World→Prop}{Q:Act→Prop}{rest:List Oper}(h:∀ K:Act→Prop,(∀ a,Ee P ops S Q rest a→K a)→if Region.wanted o (yielded ops a.tmps) then ∃ v,(∀ p:{ w:World // S w },(execOp a.eval o).run P p.1=.ok (.value v) p.1)∧K (a.put o.dst v) else K (a.put o.dst undef)):Ee P ops S Q (o::rest) a :=
 ⟨Ak (fun K hK=>h K (fun a ha=>hK a ha.out))⟩
theorem Ee.nil{S:World→Prop}{Q:Act→Prop}(h:Q a):Ee P ops S Q [] a:=⟨Ao h⟩
theorem Yf{R:List PanicEntry→World→Prop}{S:World→Prop}{l:List Oper}(m:List Bool)(f:Nat)(hF:F=f+(J3 m 0).length)(hB:(m.length == l.length && Region.noSelect l.toArray && Mg md l.toArray listed && Th md l.toArray n (J3 m 0) listed)=true)(hS:S w)
  (h:Ee P l.toArray S (fun a'=>Ek P md l.toArray (D8 R Q) S n f (Ti (J3 m 0) listed) a' w) (Ig m l) a):Ek P md l.toArray (D8 R Q) S n F listed a w :=
 Cw m f hF hB hS h.out
end Go.Proofs.YtpdahhnjhggocaaGreatDoor
