import Derived.Test.YtpdahhnjhggocaaGreatDoorMu19
import Derived.Test.YtpdahhnjhggocaaGreatDoorMu20
import Derived.RangeFuncNested
import Derived.RangeFuncBound
import Derived.RangeFuncCalls
import Derived.RangeFuncLeaves
import Derived.OwnWalkIn
import Derived.TacticsInMore
import Derived.LoopNIn
import Derived.LoopIn
import Derived.Sort.MapsRangeIn
import Derived.Maps.AppendAt
import Derived.WideLaws
open Go.Proofs.Tryz
open Go.Value renaming slice->aA,string->aD,pointer->aP,agg->aR,tuple->bL
open List renaming getElem?_cons_zero->aB,getElem?_toArray->aC,length_map->aI,setIfInBounds_toArray->aN,set_cons_zero->aT,set_cons_succ->aU,getElem?_cons_succ->aV,range->aX,getElem?_eq_some_iff->aY,length_cons->bA,map_append->bB,length_append->bC,nodup_range->bE,perm_ext_iff_of_nodup->bI,take_of_length_le->bJ,mem_of_getElem?->bQ,length->bR,mem_map_of_mem->bS,flatMap_append->bT,append_toArray->bU,map_singleton->bV,filterMap_map->bW,size_toArray->bX,push_toArray->bY,ext_getElem?->bZ,cons_append->cB,Perm->cC,nil_append->cD,mem_mapIdx->cE,length_nil->cF,mem_range->cG,mem_cons->cI,mem_map->cL
open Array renaming getElem?_eq_some_iff->aE,replicate_zero->bN,replicate_succ->bO
open Go.Obj renaming cells->aF
open Option renaming none->aG,some->aJ
open Nat renaming le_refl->aH,zero_le->bH,reduceSub->cJ,reduceAdd->cK
open Go.World renaming block_lt_of_cell?->aK,size_alloc->bD,grownBy_alloc->bP
open Go.ChangeMaps renaming setBlock->aL
open Go.RowKit.Below renaming refl->aM
open Go.Ending renaming returned->aO
open Go.Operand renaming tmp->aQ
open Subtype renaming val->aS
open Go.Op renaming store->aW
open Go.Oper renaming mk->aZ,semAt_some->bG,semAt_plain->cA,about->cO
open Go.Result renaming andThen->bF
open Go.KeepsWalks renaming alloc->bK
open Go.MapKept renaming heap_alloc->bM
open Go.Addr renaming add->cH
open Go.Instr renaming entry->cM,next->cN
namespace Go.Proofs.YtpdahhnjhggocaaGreatDoor
open Go.RowKit
set_option maxHeartbeats 16000000
set_option maxRecDepth 100000
variable {bs pre:List BAt}{seen:List Nat}{i q:Nat}{w w':World}
section
open Go.Shelf
attribute [local go_sem] bG
def LA(bs:List BAt)(r q:Nat)(pre:List BAt)(W:World):Prop:=W.heap[r]?=aJ (EG bs)/\∃seen:List Nat,W.heap[q]?=aJ (.mapIter (aJ r) bs.length seen.toArray bs.length)/\seen.Nodup/\seen.map (fun i=>bs[i]?)=pre.map aJ
def Kd(m q:Nat)(W:World):Nat:=match W.heap[q]? with
 | some (.mapIter _ _ seen _)=>m-seen.size
 | _=>0
theorem Xn(h:seen.map (fun i=>bs[i]?)=pre.map aJ)(a:i∈seen):i<bs.length:=by
 have:bs[i]?∈pre.map aJ:=by rw[<-h];exact cL.2 ⟨i,a,rfl⟩
 obtain⟨b,_,e⟩:=cL.1 this;exact(aY.1 e.symm).1
theorem YC(c:seen.Nodup)(h:seen.map (fun i=>bs[i]?)=pre.map aJ)(d:∀i,i<bs.length->i∈seen):pre.Perm bs:=by
 have e:seen.Perm (aX bs.length):=(bI c bE).2 fun i=>by rw[cG];exact⟨Xn h,d i⟩
 have a:=(e.map (fun i=>bs[i]?)).filterMap id;rw[h]at a;have f:(pre.map aJ).filterMap id=pre:=by rw[bW];simp
 have g:((aX bs.length).map (fun i=>bs[i]?)).filterMap id=bs:=by
  have:(aX bs.length).map (fun i=>bs[i]?)=bs.map aJ:=by
   refine bZ fun i=>?_
   by_cases b:i<bs.length
   ·simp[b]
   ·simp[b]
  rw[this,bW];simp
 rwa [f,g]at a
theorem Abl(h:seen.map (fun i=>bs[i]?)=pre.map aJ):pre.length=seen.length:=by
 have:=congrArg bR h;simpa using this.symm
theorem YD(b:seen.Nodup)(h:seen.map (fun i=>bs[i]?)=pre.map aJ)(c:i<bs.length)(d:i ∉ seen):seen.length<bs.length:=by
 have h1:(i::seen).Nodup:=List.nodup_cons.2 ⟨d,b⟩;have e:(i::seen) ⊆ aX bs.length:=fun j a=>by
  rw[cG];rcases cI.1 a with rfl | a
  ·exact c
  ·exact Xn h a
 have f:(i::seen).Perm ((aX bs.length).filter (fun j=>decide (j∈i::seen))):=(bI h1 (bE.filter _)).2 fun j=>by
  rw[List.mem_filter];exact⟨fun a=>⟨e a,by simpa using a⟩,fun a=>by simpa using a.2⟩
 have g:=f.length_eq;have k:=List.length_filter_le (fun j=>decide (j∈i::seen)) (aX bs.length);rw[<-g,bA,List.length_range]at k;omega
theorem Agj{e:MapEntry}(h:e∈(bs.mapIdx ER).toArray.toList):∃i b,bs[i]?=aJ b/\e=ER i b:=by
 rw[cE]at h;obtain⟨i,a,rfl⟩:=h;exact⟨i,bs[i],List.getElem?_eq_getElem a,rfl⟩
theorem Agk(bs:List BAt):((bs.mapIdx ER).toArray.toList.map (·.born)).Nodup:=by
 have:(bs.mapIdx ER).toArray.toList.map (·.born)=aX bs.length:=by
  refine bZ fun i=>?_
  by_cases a:i<bs.length
  ·simp[a,ER]
  ·simp[a]
 rw[this];exact bE
theorem vRng_next{r:Nat}(h:LA bs r q pre w)(m:TypeId):
  (pre.Perm bs/\(cN (aP (aJ ⟨q,0,aG⟩)) false m).run prog w=.ok (bL #[.bool false]) w) \/
  ∃b w',b∈bs/\(cN (aP (aJ ⟨q,0,aG⟩)) false m).run prog w=.ok (bL #[.bool true,aR #[aD b.aa,aD b.name],aR #[aD b.aa,aD b.name,b.v]]) w'/\LA bs r q (pre++[b]) w'/\pre.length<bs.length/\Kd bs.length q w'<Kd bs.length q w/\w.grownBy w' (aJ q)/\(cM (aP (aJ ⟨q,0,aG⟩))).run prog w'=.ok (bL #[aR #[aD b.aa,aD b.name],aR #[aD b.aa,aD b.name,b.v]]) w':=by
 obtain⟨f,seen,t,n,j⟩:=h;have o:=t;have A:=f;unfold EG at f;rcases run_next_at (P:=prog) w m q r bs.length bs.length seen.toArray _ _ t f (fun x B=>by
   obtain⟨i,b,d,rfl⟩:=Agj B;exact(aY.1 d).1) (aH _) with ⟨C,p⟩ | ⟨e,D,w1,l,p⟩
 ·refine .inl ⟨YC n j fun i d=>?_,p⟩;have:=all_seen _ _ C (ER i bs[i]) (by rw[cE];exact⟨i,d,rfl⟩);simpa [ER] using this
 ·obtain⟨u,E⟩:=mem_left D;obtain⟨i,b,d,rfl⟩:=Agj u;have v:i ∉ seen:=by
   have:(seen.toArray.contains i)=false:=E;simpa using this
  have F:=(aY.1 d).1;have G:=YD n j F v;have H:r≠q:=by
   intro e;subst e;rw[o]at f;cases f
  have y:q<w.heap.size:=(aE.1 o).1;have g:w1.heap=w.heap:=by rcases l with rfl | rfl <;> rfl
  have z:(aL w1 q (.mapIter (aJ r) bs.length (seen.toArray.push i) bs.length)).heap[q]?=aJ (.mapIter (aJ r) bs.length (seen++[i]).toArray bs.length):=by
   simp[aL,g,y]
  have s:(aL w1 q (.mapIter (aJ r) bs.length (seen.toArray.push i) bs.length)).heap[r]?=aJ (EG bs):=by
   simp[aL,g,H.symm,A]
  refine .inr ⟨b,_,bQ d,p,⟨s,seen++[i],z,?_,?_⟩,by rw[Abl j];exact G,?_,?_,?_⟩
  ·rw[List.nodup_append];exact⟨n,by simp,fun a I c J=>by rw[List.mem_singleton.1 J];exact fun e=>v (e▸I)⟩
  ·simp[j,d]
  ·unfold Kd;rw[show (ER i b).born=i from rfl,z,o];simp;omega
  ·refine⟨?_,?_,?_,?_,fun k L K=>?_⟩
   ·rcases l with rfl | rfl <;> rfl
   ·rcases l with rfl | rfl <;> rfl
   ·rcases l with rfl | rfl <;> rfl
   ·simp[aL,g]
   ·have:q≠k:=fun e=>K (by rw[e])
    simp[aL,g,this]
  ·refine run_entry_at (P:=prog) _ q r bs.length seen.toArray _ bs.length (ER i b) ?_ (by unfold EG at s;exact s) u (Agk bs);simp[aL,g,y,ER]
theorem LA.walks{r:Nat}(h:LA bs r q pre w)(a:KeepsWalks w w'):LA bs r q pre w'/\Kd bs.length q w'=Kd bs.length q w:=by
 obtain⟨d,seen,b,e,f⟩:=h;have c:=a.same q _ b rfl;refine⟨⟨a.same r _ d rfl,seen,c,e,f⟩,?_⟩;unfold Kd;rw[b,c]
theorem LA.isWalk{r:Nat}(h:LA bs r q pre w):∃o:Obj,w.heap[q]?=aJ o/\o.isWalk=true:=by
 obtain⟨_,seen,a,_⟩:=h;exact⟨_,a,rfl⟩
section
variable {F:Fence} {n:Nat} (w:World) {ops:Array Oper} {rest:List Oper} {o:Oper} {a:Act} {Q:Exit->Act->World->Prop}
theorem LC(d:o.guard=aG)(m:Operand)(b:o.op=Op.range 70 m)(r:Nat)(bs:List BAt)(e:a.eval m=.map (aJ r))(h:w.heap[r]?=aJ (EG bs))
  (f:∀w',LA bs r w.heap.size [] w'->w.grownBy w' aG->wpListIn F n prog ops Q rest (a.put o.dst (aP (aJ ⟨w.heap.size,0,aG⟩))) w'):wpListIn F n prog ops Q (o::rest) a w:=by
 refine wpListIn_plain d fun k g=>?_
 have i:=run_range_map (P:=prog) w 70 73 46 r _ _ underlying70 (by unfold EG at h;exact h);unfold Oper.wpIn;refine⟨?_,?_⟩
 ·simp[cO,b]
 ·rw[cA F _ _ (by rw[b];intro c j;cases j)];simp[execOp,b,e,i,bF];refine g _ _ (f _ ⟨((bM w _).2 r (aE.1 h).1).trans h,[],(bM w _).1,List.nodup_nil,rfl⟩ (bP w _ aG))
theorem NQ(i:o.guard=aG)(f:Operand)(d:o.op=Op.next f false)(r q:Nat)(bs pre:List BAt)(hit:a.eval f=aP (aJ ⟨q,0,aG⟩))(h:LA bs r q pre w)
  (j:pre.Perm bs->wpListIn F n prog ops Q rest (a.put o.dst (bL #[.bool false])) w)
  (k:∀b w',b∈bs->LA bs r q (pre++[b]) w'->pre.length<bs.length->Kd bs.length q w'<Kd bs.length q w->w.grownBy w' (aJ q)->(cM (aP (aJ ⟨q,0,aG⟩))).run prog w'=.ok (bL #[aR #[aD b.aa,aD b.name],aR #[aD b.aa,aD b.name,b.v]]) w'->wpListIn F n prog ops Q rest (a.put o.dst (bL #[.bool true,aR #[aD b.aa,aD b.name],aR #[aD b.aa,aD b.name,b.v]])) w'):wpListIn F n prog ops Q (o::rest) a w:=by
 refine wpListIn_plain i fun x g=>?_
 unfold Oper.wpIn;refine⟨by simp[cO,d],?_⟩;rw[cA F _ _ (by rw[d];intro c l;cases l)];rcases vRng_next h o.type with ⟨m,e⟩ | ⟨b,w',p,e,h1,s,t,u,v⟩
 ·simp[execOp,d,hit,e,bF];exact g _ _ (j m)
 ·simp[execOp,d,hit,e,bF];exact g _ _ (k b w' p h1 s t u v)
end
end
section
open Go.Shelf
attribute [local go_sem] bG
abbrev Za(bs:List BAt):={ b:BAt // b∈bs }
abbrev Za.encs{bs:List BAt}(x:Za bs):Array Value:=#[aR #[aD x.1.aa,aD x.1.name,x.1.v]]
theorem Wb(F:Fence)(n:Nat)(q:F.fn 114)(s:F.round=aG)(S:1<=n)(l h r:Nat)(bs:List BAt)(t:∀b∈bs,∃a m c,b.v=aA a m c)(J i:List (Za bs)->World->Prop)
  (u:∀pre x W,J pre W->pre.length<bs.length->YieldAt F (n-1) prog l (Za.encs x) W fun e W' =>
    (e=aO (.bool true)/\J (pre++[x]) W'/\KeepsWalks W W')\/(e=aO (.bool false)/\i (pre++[x]) W'))
  (W:World) (g:AbidesFrom W.heap.size J) (T:W.cell? ⟨h,0,aG⟩=aJ (.map (aJ r))) (w:W.heap[r]?=aJ (EG bs)) (y:J [] W) :
  CallsIn F n prog 114 #[.func (.yield l) #[] #[],aP (aJ ⟨h,0,aG⟩)] W fun e W'=>(∃v,e=aO v) /\
   ((∃xs,(xs.map aS).Perm bs/\J xs W')\/(∃pre,True/\i pre W')):=by
 refine callsIn_of_wp func114 rfl q ?_ s;simp only[ntmps114,bX,bA,cF,cK,cJ,bO,bN,bY,bU,cD,cB]
 gi_wp2_with (first
  | (gi_at_range;refine LC _ rfl _ rfl r bs rfl w ?_;intro w0 z A)
  | gi_in)
 go_frame
 gi_loopw [4] (fun _ wr=>∃d:List (Za bs),LA bs r W.heap.size (d.map aS) wr/\J d wr)
  (fun _ wr=>Kd bs.length W.heap.size wr)
 case atStart =>
  exact⟨[],z,g [] W w0 aG y A (fun r e=>by cases e)⟩
 case round =>
  obtain⟨d,j,k⟩:=hrel
  gi_wp2_with (first
   | (gi_at_next;refine NQ _ rfl _ rfl r W.heap.size bs _ rfl j ?_ ?_)
   | gi_in)
  ·intro B
   gi_wp2
   go_end0
   exact⟨⟨_,rfl⟩,.inl ⟨d,B,k⟩⟩
  ·intro b w2 f C D E G H;have I:J d w2:=g d wr w2 (aJ W.heap.size) k G (fun r e=>by cases e;exact⟨aH _,j.isWalk⟩);obtain⟨ba,K,bc,L⟩:=t b f;have M:J d (w2.alloc (aF #[aD b.aa,aD b.name,aA ba K bc] 46)):=g d w2 _ aG I (bP _ _ aG) (fun r e=>by cases e);obtain⟨X,tmps,assign,body,o,N⟩:=u d ⟨b,f⟩ _ M (by simpa using D);dsimp only[Za.encs]at o;rw[L]at o H;have O:LA bs r W.heap.size ((d++[(⟨b,f⟩:Za bs)]).map aS) w2:=by rw[bB];exact C
   gi_wp2
   refine N.mono ?_;rintro e W3 (⟨rfl,P,Q⟩ | ⟨rfl,R⟩)
   ·gi_wp2
    have p:=O.walks ((bK _ _).trans Q);go_roundw;case rel=>exact⟨d++[⟨b,f⟩],p.1,P⟩
    case measure=>rw[p.2];exact E
   ·gi_wp2
    refine bodyPost_ret (results_none rfl _ _ _) rfl ?_;exact⟨⟨_,rfl⟩,.inr ⟨_,trivial,R⟩⟩
theorem RE(F:Fence)(n:Nat)(g:F.fn 114)(h:F.round=aG)(i:1<=n)(d r:Nat)(bs:List BAt)(j:∀b∈bs,∃a m c,b.v=aA a m c)(w:World)(k:d<w.heap.size)(o:w.cell? ⟨d,0,aG⟩=aJ (.map (aJ r)))(e:w.heap[r]?=aJ (EG bs)):
  SeqStopsK F n prog 114 #[aP (aJ ⟨d,0,aG⟩)] (fun x:Za bs=>Za.encs x) KeepsWalks (fun xs=>(xs.map aS).Perm bs) (fun _=>True) bs.length w:=fun l J q W f s _ t u =>
 Wb F n g h i l d r bs j J q t W s ((f.cell (p:=⟨d,0,aG⟩) k).trans o) ((f.block r (aE.1 e).1).trans e) u
end
section
open Go.Shelf
attribute [local go_sem] bG
theorem Wc(w:World)(x y z:Value)(t:TypeId):∀j u,[x,y,z][j]?=aJ u->(w.alloc (aF #[x,y,z] t)).cell? ((⟨w.heap.size,0,aG⟩:Addr).add j)=aJ u:=by
 intro j u a
 match j,a with
 | 0,a=>simp at a;subst a;simp[cH]
 | 1,a=>simp at a;subst a;simp[cH]
 | 2,a=>simp at a;subst a;simp[cH]
 | (j+3),a=>simp at a
theorem RF(F:Fence)(n:Nat)(S:F.fn 169)(J:F.fn 114)(z:F.round=aG)(an:3<=n)(d r:Nat)(bs:List BAt)(ao:bs.length<=1000)(A:∀b∈bs,∃a m c,b.v=aA a m c)(w:World)(L:w.cell? ⟨d,0,aG⟩=aJ (.map (aJ r)))(M:w.heap[r]?=aJ (EG bs)):
  CallsIn F n prog 169 #[aA aG 0 0,.func (.func 114) #[] #[aP (aJ ⟨d,0,aG⟩)]] w fun e w'=>∃v xs,e=aO v/\cC xs bs/\w'.ownsRow w.heap.size 46 3 v xs.length (xs.flatMap BAt.cells)/\Below w.heap.size w w':=by
 have h1:1<=n:=by omega
 obtain⟨i0,T,U,V,Z⟩:=info_parts Bg;have aa:d<w.heap.size:=aK w _ L;refine callsIn_of_wp_marks func169 rfl S ?_ z;simp only[ntmps169,bX,bA,cF,cK,cJ,bO,bN,bY,bU,cD,cB]
 gi_wp2
 have N:=Boxed.new w 23 (aA aG 0 0);have u:Below w.heap.size w (w.alloc (aF #[aA aG 0 0] 23)):=(aM _ w).alloc (aH _) _;have ab:(w.alloc (aF #[aA aG 0 0] 23)).heap.size=w.heap.size+1:=by simp
 obtain⟨W0,O⟩:∃W0,w.alloc (aF #[aA aG 0 0] 23)=W0:=⟨_,rfl⟩;rw[O]at N u ab⊢;clear O
 refine wpIn_rangeFunc_ownH z h1 (gf:=114) (lb:=#[aP (aJ ⟨d,0,aG⟩)]) rfl J (enters_of func114 (by kernel_rfl) rfl)
  (RE F (n-1) J z (by omega) d r bs A W0 (by omega) ((u.cell (p:=⟨d,0,aG⟩) aa).trans L) ((u.block r (aE.1 M).1).trans M)) walksK_t walksK_b (aM _ _) (fun _=>rfl)
  (fun pre W=>(∃v,Boxed W w.heap.size 23 v/\W.ownsRow w.heap.size 46 3 v pre.length ((pre.map aS).flatMap BAt.cells)/\True)/\Below w.heap.size w W)
  (fun _ _ _=>False)
  (OwnFrom.and (Own.from (holdsRow_own w.heap.size w.heap.size 23 46 3 (fun pre:List (Za bs)=>pre.length) (fun pre=>(pre.map aS).flatMap BAt.cells) (fun _ _=>True)) _) (ownFrom_below (aH _) (by omega)))
  (fun _ _ _ _ _ B _ _=>B)
  ⟨⟨_,N,World.ownsRow_nil _ _ _ _,trivial⟩,u⟩
  (fun x a' W=>∃f,w.heap.size<f/\W.heap[f]?=aJ (aF #[aD x.1.aa,aD x.1.name,x.1.v] 46 (0,0))/\a'={ tmps:=#[aA aG 0 0,.func (.func 114) #[] #[aP (aJ ⟨d,0,aG⟩)],aP (aJ ⟨w.heap.size,0,aG⟩),undef,aA aG 0 0,aP (aJ ⟨f,0,aG⟩),.func (.func 114) #[] #[aP (aJ ⟨d,0,aG⟩)],aR #[aD x.1.aa,aD x.1.name,x.1.v],undef,undef,undef,undef,undef],defers:=[] })
  (fun x a' _ X Y row B ac ad=>by
    obtain⟨f,h1,C,ae⟩:=B;refine⟨f,h1,(ac.block f (aE.1 C).1 (fun e=>?_)).trans C,ae⟩;obtain⟨_,o,y,E⟩:=ad f e.symm;rw[C]at y;cases y
    cases E)
  ?assign ?body ?done ?stop
 case assign =>
  rintro l pre ⟨⟨bk,bn,bv,G⟩,j⟩ W K ⟨⟨v,g,i,_⟩,P⟩ q;obtain⟨ba,s,bc,rfl⟩:∃a m c,bv=aA a m c:=A _ j
  gi_wp2
  exact q _ _ ((KeepsOthers.alloc _ _).from _) (bK _ _) ⟨⟨v,g.alloc _,i.alloc _,trivial⟩,P.alloc P.size _⟩ ⟨W.heap.size,g.lt,World.alloc_heap_new _ _,rfl⟩
 case body =>
  rintro l pre ⟨⟨bk,bn,bv,G⟩,j⟩ a' W ap _ ⟨⟨v,g,i,_⟩,t⟩ ⟨f,aq,H,rfl⟩ ar;obtain⟨ba,s,bc,rfl⟩:∃a m c,bv=aA a m c:=A _ j;have E:=g.cell;have k0:=Ab H 0;have af:=Ab H 1;have ag:=Ab H 2;simp only[aC,aB,aV]at k0 af ag
  gi_wp2_with (gi_at_builtin;refine wpListIn_append_own _ rfl _ _ 23 rfl w.heap.size 46 i0 _ 3 56 underlying23 T U V Z rfl (by decide) _ _ _ rfl (i.alloc _) ⟨W.heap.size,0,aG⟩ 1 1 [aD bk,aD bn,aA ba s bc] rfl rfl (Wc _ _ _ _ _) (by simp[Value.oneCell']) (by unfold maxLen;omega) (by omega) (by have:=t.size;simp;omega) ?_;intro v' w1 Q ah _;obtain⟨au,av,rfl⟩:=ownsRow_succ Q;obtain⟨R,ai,aj,I,ak⟩:=g.appended (by decide) i t.size (aH _) Q ah;have aw:=R.cell;have ax:=R.frozen)
  refine⟨I.from _,⟨I.size,fun k o h y=>I.same k o h (Obj.not_cells_of_walk y)⟩,⟨_,ai,?_⟩,t.trans ak⟩;have al:(pre++[(⟨⟨bk,bn,aA ba s bc,G⟩,j⟩:Za bs)]).unattach.flatMap BAt.cells=(pre.map aS).flatMap BAt.cells++[aD bk,aD bn,aA ba s bc]:=by
   show ((pre++[(⟨⟨bk,bn,aA ba s bc,G⟩,j⟩:Za bs)]).map aS).flatMap BAt.cells=_
   rw[bB,bT];rfl
  rw[al,bC];exact aj
 case done =>
  rintro D ys W ay am ⟨⟨v,g,i,_⟩,t⟩ q;have E:=g.cell
  gi_wp2
  refine⟨by simp,.inl ⟨_,_,rfl,run_takeDeferred q,?_⟩⟩;refine⟨_,results_tmp rfl _ _ _,v,ys.map aS,rfl,am,?_,t.trans (belowK_b (w:=w) (aH _) W D _ _ (by omega) q rfl rfl)⟩;rw[aI];exact ownsRow_putObj i _ q rfl
 case stop =>
  rintro D c pre W _ _ h _;exact h.elim
def Uk(bs:List BAt)(w:World)(e:Ending)(w':World):Prop:=∃v xs,e=aO v/\cC xs bs/\w'.ownsRow w.heap.size 46 3 v xs.length (xs.flatMap BAt.cells)/\Below w.heap.size w w'
theorem Ul(d r:Nat)(bs:List BAt)(g:bs.length<=1000)(h:∀b∈bs,∃a m c,b.v=aA a m c)(w:World)(i:w.cell? ⟨d,0,aG⟩=aJ (.map (aJ r)))(j:w.heap[r]?=aJ (EG bs)):
  Calls prog 113 #[.func (.func 114) #[] #[aP (aJ ⟨d,0,aG⟩)]] w fun e w'=>Uk bs w e w':=by
 have f:Calls prog 169 #[aA aG 0 0,.func (.func 114) #[] #[aP (aJ ⟨d,0,aG⟩)]] w fun e w'=>Uk bs w e w':=(callsIn_wide (n:=4)).1 (RF Fence.wide 4 trivial trivial rfl (by omega) d r bs g h w i j)
 go_enter func113,ntmps113;go_wp2_with (go_at_call 169;refine f.mono ?_)
 rintro e w1 ⟨v,xs,rfl,h1,k,l⟩;clear f;go_wp2;go_ret;exact⟨v,xs,rfl,h1,k,l⟩
def Wd(bs:List BAt)(w:World)(e:Ending)(w':World):Prop:=∃v xs,e=aO v/\cC xs bs/\(w'.ownsRow w.heap.size 46 3 v xs.length (xs.flatMap BAt.cells)/\(∀i j:Nat,i<j->∀a b,xs[i]?=aJ a->xs[j]?=aJ b->blockLt b.I a.I=false))/\Below w.heap.size w w'
theorem We(f r:Nat)(bs:List BAt)(l:bs.length<=1000)(g:∀b∈bs,∃a m c,b.v=aA a m c)(w:World)(n:w.cell? ⟨f,0,aG⟩=aJ (.map (aJ r)))(o:w.heap[r]?=aJ (EG bs)):
  Calls prog 49 #[.func (.func 114) #[] #[aP (aJ ⟨f,0,aG⟩)],.func (.func 51) #[] #[]] w fun e w'=>Wd bs w e w':=by
 have d:=Ul f r bs l g w n o;go_enter func49,ntmps49;go_wp2_with (go_at_call 113;refine d.mono ?_)
 rintro e w1 ⟨v,xs,rfl,h1,h,i⟩;clear d;have y:xs.length=bs.length:=h1.length_eq;have d:=Hz h (fun x p=>g x (h1.subset p)) (by omega);go_wp2_with (go_at_call 76;refine d.mono ?_)
 rintro e w2 ⟨rfl,ys,j,q,s,t⟩;clear d;go_wp2;go_ret;refine⟨v,ys,rfl,j.trans h1,⟨by rw[j.length_eq];exact q,s⟩,?_⟩;exact i.grown t i.size (fun k u=>(h.lt k u).1)
end
variable {v uv ov:Value}
def Agl(w2:World)(us os:List BAt)(cv:Value)(a:Nat)(i:Value)(wr:World):Prop:=∃(j:Nat) (bs:List BAt),i=.int .i64 (j:Int)/\j<=a/\OvL w2 us os cv j bs wr
theorem NR(h:As w v bs):∀y∈bs.flatMap BAt.cells,y.oneCell'=true:=by
 intro y d;obtain⟨b,f,d⟩:=List.mem_flatMap.1 d;obtain⟨a,c,e⟩:=(h.2 b f).1.ae;simp only[BAt.cells,cI,List.not_mem_nil,or_false]at d;rcases d with rfl | rfl | rfl
 ·rfl
 ·rfl
 ·rw[e];rfl
theorem RG{us os:List BAt}(S:As w uv us)(ag:As w ov os)(ah:Ax us)(a7:Ax os)(ai:BJ w):Calls prog 11 #[aR #[uv],aR #[ov]] w fun e w'=>∃v' bs',e=aO (aR #[v'])/\bs'.map BAt.I=Bb (us.map BAt.I) (os.map BAt.I)/\Aq w.heap.size w' v' bs'/\Below w.heap.size w w':=by
 obtain⟨r,s,rfl⟩:=S.1.ae;obtain⟨t,u,rfl⟩:=ag.1.ae;have a3:=Ho (w:=w) (o1:=aF #[aA r us.length s] 25) (o2:=aF #[aA t os.length u] 25) (o3:=aF #[aA aG 0 0] 25);have K:Below w.heap.size w (((w.alloc (aF #[aA r us.length s] 25)).alloc (aF #[aA t os.length u] 25)).alloc (aF #[aA aG 0 0] 25)):=(((aM _ _).alloc (aH _) _).alloc (by simp) _).alloc (by simp;omega) _;have a8:=Cs (S.V K) ah (ai.V K);have U:=Aa S;have L:=Aa ag;have ch:=Aa ah;have a9:=Aa a7;have ci:=Aa ai;clear S ag ah a7 ai;generalize aj:us.length=d at *;generalize ak:os.length=h at *;have I:=Aa aj;have y:=Aa ak;clear aj ak;obtain⟨c0,al,am,ba⟩:=a3;have bb:=Ab al 0;have bc:=Ab am 0;simp only[aC,aB]at bb bc;generalize bd:((w.alloc (aF #[aA r d s] 25)).alloc (aF #[aA t h u] 25)).alloc (aF #[aA aG 0 0] 25)=W3 at *;go_enter func11,ntmps11;go_wp2_with (go_at_call 19;(try rw[bd]);refine a8.mono ?_)
 first | rintro e w1 rfl z | rintro e w1 ⟨rfl,z⟩
 have c1:=z.size;have n:=K.trans (z.mono K.size);have be:=(z.block w.heap.size (by omega)).trans al;have an:=(z.block (w.heap.size+1) (by omega)).trans am;have V:=(z.block (w.heap.size+2) (by omega)).trans ba;have bf:=Ab an 0;simp only[aC,aB]at bf;clear a8 bb bc al am ba bd K z;cases X:AJ (us.map BAt.I)
 ·have M:=Aa (show ([]:List BAt).map BAt.I=Bb (us.map BAt.I) (os.map BAt.I) from(JW (.inl X)).symm);clear X;have a:Below w.heap.size w (w1.setRow (w.heap.size+2) #[aA aG 0 0]):=⟨n.os,n.tape,n.output,by rw[setRow_size];exact n.size,fun k A=>by rw[setRow_other _ _ _ _ (by omega)];exact n.block k A⟩;go_wp2_with (with_reducible show wpList _ _ _ (aZ _ (aW _ (aQ 4) _) _ _ _ _::_) _ _;refine wpList_store_row rfl 25 _ _ rfl (w.heap.size+2) #[aA aG 0 0] ?_ ?_ 25 _ V ?_ ?_ ?_ ?_)
  all_goals (first | rfl | kernel_rfl | exact AB | skip)
  have z5:(w1.setRow (w.heap.size+2) #[aA aG 0 0]).heap[w.heap.size+2]?=aJ (aF #[aA aG 0 0] 25 (0,0)):=setRow_heap _ _ _ _ _ _ V;have c:=Ab z5 0;simp only[aC,aB]at c;generalize w1.setRow (w.heap.size+2) #[aA aG 0 0]=W at a c z5⊢;exact bodyPost_ret (v:=aR #[aA aG 0 0]) (by simp[results,results11,go_sem,c]) rfl ⟨_,[],rfl,M.out,BP _ _,a⟩
 ·have cj:=Aa X;clear X;have bg:=Cs (L.out.V n) a9.out (ci.out.V n);go_wp2_with (go_at_call 19;(try rw[y.out]);refine bg.mono ?_)
  first | rintro e w2 rfl B | rintro e w2 ⟨rfl,B⟩
  have c2:=B.size;have l:=n.trans (B.mono n.size);have ck:=(B.block w.heap.size (by omega)).trans be;have cl:=(B.block (w.heap.size+1) (by omega)).trans an;have ao:=(B.block (w.heap.size+2) (by omega)).trans V;clear bg be an V bf B;cases Y:AJ (os.map BAt.I)
  ·have M:=Aa (show ([]:List BAt).map BAt.I=Bb (us.map BAt.I) (os.map BAt.I) from(JW (.inr Y)).symm);clear Y;have a:Below w.heap.size w (w2.setRow (w.heap.size+2) #[aA aG 0 0]):=⟨l.os,l.tape,l.output,by rw[setRow_size];exact l.size,fun k A=>by rw[setRow_other _ _ _ _ (by omega)];exact l.block k A⟩;go_wp2_with (with_reducible show wpList _ _ _ (aZ _ (aW _ (aQ 4) _) _ _ _ _::_) _ _;refine wpList_store_row rfl 25 _ _ rfl (w.heap.size+2) #[aA aG 0 0] ?_ ?_ 25 _ ao ?_ ?_ ?_ ?_)
   all_goals (first | rfl | kernel_rfl | exact AB | skip)
   have z5:(w2.setRow (w.heap.size+2) #[aA aG 0 0]).heap[w.heap.size+2]?=aJ (aF #[aA aG 0 0] 25 (0,0)):=setRow_heap _ _ _ _ _ _ ao;have c:=Ab z5 0;simp only[aC,aB]at c;generalize w2.setRow (w.heap.size+2) #[aA aG 0 0]=W at a c z5⊢;exact bodyPost_ret (v:=aR #[aA aG 0 0]) (by simp[results,results11,go_sem,c]) rfl ⟨_,[],rfl,M.out,BP _ _,a⟩
  ·have cm:=Aa Y;clear Y;have Z:=Aa (A0.1 cj.out);have aa:=Aa (A0.1 cm.out);have aj:d<=60:=by rw[<-I.out,<-aI (f:=BAt.I)];exact Z.out.1
   have ak:h<=60:=by rw[<-y.out,<-aI (f:=BAt.I)];exact aa.out.1
   have cn:=run_makeMap_plain (P:=prog) w2 70;have ab:=(aM w2.heap.size w2).alloc (aH _) (.map #[] 0);have ap:=ab.alloc (by simp) (aF #[aA r d s,aA t h u] 23);have bh:=Al w2 (.map #[] 0);have bi:=Ab ((ab.block _ (by omega)).trans ck) 0;have bj:=Ab ((ab.block _ (by omega)).trans cl) 0;simp only[aC,aB]at bi bj;have bk:=Al (w2.alloc (.map #[] 0)) (aF #[aA r d s,aA t h u] 23);have g4:=l.trans (ap.mono l.size);have aq:=Uc bk ((U.out.V g4).1) ((L.out.V g4).1) (NR U.out) (NR L.out) (by rw[I.out,y.out];omega);rw[I.out,y.out,bD]at aq;have bl:=(Below.heap_alloc (w2.alloc (.map #[] 0)) (aF #[aA r d s,aA t h u] 23) w2.heap.size (by simp)).trans bh;have bm:=Aa ap;have bn:=Aa bl;clear ab ap bh bl bk g4;go_wp2_with (go_at_call 46;refine aq.mono ?_)
   rintro e co ⟨cv,rfl,ac,a⟩;have bo:((w2.alloc (.map #[] 0)).alloc (aF #[aA r d s,aA t h u] 23)).heap.size=w2.heap.size+2:=by simp
   rw[bo]at ac a;obtain⟨ca,bp,rfl,_⟩:=Ak ac;have bq:=Aa (bm.out.trans (a.mono (by omega)));have br:=Aa (show OvL w2 us os (aA ca (d+h) bp) 0 [] co from⟨⟨bq.out,(a.block w2.heap.size (by omega)).trans bn.out,Az.nil _ _,by simp,by simp,aH _⟩,by rw[I.out,y.out,bT];exact Cu ac (by omega),.inl ⟨bH _,VV _ _⟩⟩);clear aq ac a bo bm bn bq cn bi bj;go_wp2;go_loopw [26] (fun i wr=>Agl w2 us os (aA ca (d+h) bp) (d+h) i wr) (fun i _=>d+h-(intOf i).toNat)
   case atStart=>exact⟨0,[],rfl,by omega,br.out⟩
   case round =>
    obtain⟨j,bs,rfl,c3,o⟩:=hrel;clear br;have ar:=o.1.bw;have c4:=ar.size;by_cases cp:j<d+h
    ·obtain⟨D,x,T,au,av⟩:=AS (us++os) j (by rw[bC,I.out,y.out];exact cp);have aw:(us++os)[j]?=aJ x:=by rw[au,<-av];simp
     have ax:=Aa (OvL.step (U.out.V l) (L.out.V l) ch.out a9.out Z.out aa.out o aw);have ay:=AG o.2.1;rw[au]at ay;obtain⟨g,off,rfl,az,a0,a1⟩:=ay.block;rw[av]at az a0 a1;have cq:∃xa N xc,x.v=aA xa N xc:=by
      rcases List.mem_append.1 (bQ aw) with a2 | a2
      ·obtain⟨xa,xc,e⟩:=(U.out.2 x a2).1.ae;exact⟨_,_,_,e⟩
      ·obtain⟨xa,xc,e⟩:=(L.out.2 x a2).1.ae;exact⟨_,_,_,e⟩
     obtain⟨xk,xn,xv,cr⟩:=x;obtain⟨xa,N,xc,bt⟩:=cq;dsimp only at bt az a0 a1;subst bt;have C:=Aa o.1.mp;have c5:¬((j:Int)<0):=by omega
     clear o ay au av aw;go_wp2_with (go_at_call 47;refine(VY _ _ _ _ _ _).mono ?_)
     first | rintro e E rfl O | rintro e E ⟨rfl,O⟩
     have bu:=(aM wr.heap.size wr).alloc (aH _) (aF #[aD xk,aD xn,aA xa N xc] 46);have J:=(aM E.heap.size E).alloc (aH _) (aF #[aD xk,aD xn] 73);have cs:=O.size;rw[bD]at cs;have p:Below wr.heap.size wr (E.alloc (aF #[aD xk,aD xn] 73)):=(bu.trans (O.mono (by omega))).trans (J.mono (by omega));have bv:=(J.block wr.heap.size (by omega)).trans ((O.block wr.heap.size (by omega)).trans (Al wr (aF #[aD xk,aD xn,aA xa N xc] 46)));have bw:=Al E (aF #[aD xk,aD xn] 73);have bx:=(p.block w2.heap.size (aE.1 C.out).1).trans C.out;have bz:=Aa bv;have b0:=Aa bw;have b1:=Aa bx;have ad:=Aa p;clear bv bw bx p J O bu az a0 a1 C;go_upto_region 8 with fail
     have b2:=ad.out.size;refine Abf (Abk ⟨xk,xn,aA xa N xc,cr⟩ (found xk xn bs)) b1.out b0.out bz.out (fun W a4=>ax.out.1 W (ad.out.trans (a4.mono b2))) (by kernel_rfl) (by kernel_rfl) (by kernel_rfl) (by kernel_rfl) ?_;rintro v2 a' q m ct ls W1 W2 b3 b4 b5 b6;simp only[Ai,CL,aN,aT,aU]at b3;subst b3;have cu:=Aa (ax.out.2 (aA q m ct) ls W1 W2 (ad.out.trans (b4.mono b2)) b5 b6);clear ax b5 b4 b6 bz b0 b1 ad;go_wp2;go_roundw;case rel=>exact⟨j+1,_,by go_num,by omega,cu.out⟩
     case measure=>simp[intOf];omega
    ·have b7:j=us.length+os.length:=by rw[I.out,y.out];omega
     have cw:j=d+h:=by omega
     have ae:=Aa (OvL.perm Z.out aa.out (b7▸o));have Q:=Aa o.1;have C:=o.1.mp;unfold EG at C;have b8:=run_len_map (P:=prog) (w:=wr) 70 3 w2.heap.size _ _ (by kernel_rfl) C;have b9:(bs.mapIdx ER).toArray.size=bs.length:=by simp
     rw[b9]at b8;clear b9 C o b7;subst cw;have af:=(ar.block (w.heap.size+2) (by omega)).trans ao;have F:=l.trans (ar.mono l.size);by_cases cx:bs.length<=60
     ·have cy:¬((60:Int)<(bs.length:Int)):=by omega
      have xv:=(aM wr.heap.size wr).alloc (aH _) (aF #[.map (aJ w2.heap.size)] 70);have cb:=We wr.heap.size w2.heap.size bs (by omega) (fun b a4=>by
       obtain⟨xa,xc,e⟩:=(Q.out.blockIn a4).lin.1.ae;exact⟨_,_,_,e⟩) (wr.alloc (aF #[.map (aJ w2.heap.size)] 70)) (by simp) ((xv.block _ (aE.1 Q.out.mp).1).trans Q.out.mp)
      have cc:=Aa xv;clear xv;go_wp2_with (first | (go_at_call 50;refine(VZ _ _).mono ?_;first | rintro e E rfl rfl | rintro e E ⟨rfl,rfl⟩) | (go_at_call 49;refine cb.mono ?_))
      rintro e a5 ⟨c6,xs,rfl,a6,⟨cd,ce⟩,J⟩;have p:=cc.out.trans (J.mono (by simp));have cf:=Aa (Q.out.own p a6 (Cu cd (by simp)));have cz:=Aa (Uj (xs:=xs) Z.out aa.out (by rw[<-ae.out.length_eq,aI];exact cx) ((a6.map BAt.I).trans ae.out) ce);have c7:=p.size;have cg:=(p.block (w.heap.size+2) (by omega)).trans af;have R:=F.trans (p.mono F.size);obtain⟨va,G,rfl,_⟩:=Ak cf.out.row;clear cb a6 cd ce J p cc Q ae b8 af;generalize xs.length=H at *;go_wp2_with (with_reducible show wpList _ _ _ (aZ _ (aW _ (aQ 4) _) _ _ _ _::_) _ _;refine wpList_store_row rfl 25 _ _ rfl (w.heap.size+2) #[aA va H G] ?_ ?_ 25 _ cg ?_ ?_ ?_ ?_)
      all_goals (first | rfl | kernel_rfl | exact AB | skip)
      have z5:(a5.setRow (w.heap.size+2) #[aA va H G]).heap[w.heap.size+2]?=aJ (aF #[aA va H G] 25 (0,0)):=setRow_heap _ _ _ _ _ _ cg;have a:Below w.heap.size w (a5.setRow (w.heap.size+2) #[aA va H G]):=⟨R.os,R.tape,R.output,by rw[setRow_size];exact R.size,fun k A=>by rw[setRow_other _ _ _ _ (by omega)];exact R.block k A⟩;have o5:=(cf.out.setRow (w.heap.size+2) (by omega) #[aA va H G]).mono (show w.heap.size<=w2.heap.size+1 by omega);have c:=Ab z5 0;simp only[aC,aB]at c;generalize a5.setRow (w.heap.size+2) #[aA va H G]=W at a c z5 o5⊢;exact bodyPost_ret (v:=aR #[aA va H G]) (by simp[results,results11,go_sem,c]) rfl ⟨_,xs,rfl,cz.out,o5,a⟩
     ·have cy:((60:Int)<(bs.length:Int)):=by omega
      have M:=Aa (show ([]:List BAt).map BAt.I=Bb (us.map BAt.I) (os.map BAt.I) from(YB (by rw[<-ae.out.length_eq,aI];omega)).symm);have a:Below w.heap.size w (wr.setRow (w.heap.size+2) #[aA aG 0 0]):=⟨F.os,F.tape,F.output,by rw[setRow_size];exact F.size,fun k A=>by rw[setRow_other _ _ _ _ (by omega)];exact F.block k A⟩;go_wp2_with (with_reducible show wpList _ _ _ (aZ _ (aW _ (aQ 4) _) _ _ _ _::_) _ _;refine wpList_store_row rfl 25 _ _ rfl (w.heap.size+2) #[aA aG 0 0] ?_ ?_ 25 _ af ?_ ?_ ?_ ?_)
      all_goals (first | rfl | kernel_rfl | exact AB | skip)
      have z5:(wr.setRow (w.heap.size+2) #[aA aG 0 0]).heap[w.heap.size+2]?=aJ (aF #[aA aG 0 0] 25 (0,0)):=setRow_heap _ _ _ _ _ _ af;have c:=Ab z5 0;simp only[aC,aB]at c;generalize wr.setRow (w.heap.size+2) #[aA aG 0 0]=W at a c z5⊢;exact bodyPost_ret (v:=aR #[aA aG 0 0]) (by simp[results,results11,go_sem,c]) rfl ⟨_,[],rfl,M.out,BP _ _,a⟩
theorem RH{us os:List BAt}(bt:As w uv us)(cq:As w ov os)(cr:Ax us)(di:Ax os):Calls prog 13 #[aR #[uv],aR #[ov]] w fun e w'=>∃v' bs',e=aO (aR #[v'])/\bs'.map BAt.I=Bb (us.map BAt.I) (os.map BAt.I)/\Aq w.heap.size w' v' bs'/\Below w.heap.size w w':=by
 obtain⟨ay,az,rfl⟩:=bt.1.ae;obtain⟨al,am,rfl⟩:=cq.1.ae;have a3:=Ho (w:=w) (o1:=aF #[aA ay us.length az] 25) (o2:=aF #[aA al os.length am] 25) (o3:=aF #[aA aG 0 0] 25);have bu:Below w.heap.size w (((w.alloc (aF #[aA ay us.length az] 25)).alloc (aF #[aA al os.length am] 25)).alloc (aF #[aA aG 0 0] 25)):=(((aM _ _).alloc (aH _) _).alloc (by simp) _).alloc (by simp;omega) _;have dj:=DI (bt.V bu) cr;have dk:=Aa bt;have cs:=Aa cq;have ct:=Aa cr;have cu:=Aa di;clear bt cq cr di;generalize dl:us.length=I at *;generalize dm:os.length=V at *;have an:=Aa dl;have J:=Aa dm;clear dl dm;obtain⟨fs,cv,cw,dn⟩:=a3;have dp:=Ab cv 0;have dq:=Ab cw 0;simp only[aC,aB]at dp dq;generalize dr:((w.alloc (aF #[aA ay I az] 25)).alloc (aF #[aA al V am] 25)).alloc (aF #[aA aG 0 0] 25)=W3 at *;go_enter func13,ntmps13;go_wp2_with (go_at_call 14;(try rw[dr]);refine dj.mono ?_)
 first | rintro e w1 rfl Y | rintro e w1 ⟨rfl,Y⟩
 have ft:=Y.size;have Z:=bu.trans (Y.mono bu.size);have ds:=(Y.block w.heap.size (by omega)).trans cv;have cx:=(Y.block (w.heap.size+1) (by omega)).trans cw;have bw:=(Y.block (w.heap.size+2) (by omega)).trans dn;have dt:=Ab cx 0;simp only[aC,aB]at dt;clear dj dp dq cv cw dn dr bu Y;cases bx:AJ (us.map BAt.I)
 ·have aa:=Aa (show ([]:List BAt).map BAt.I=Bb (us.map BAt.I) (os.map BAt.I) from(JW (.inl bx)).symm);clear bx;have t:Below w.heap.size w (w1.setRow (w.heap.size+2) #[aA aG 0 0]):=⟨Z.os,Z.tape,Z.output,by rw[setRow_size];exact Z.size,fun k Q=>by rw[setRow_other _ _ _ _ (by omega)];exact Z.block k Q⟩;go_wp2_with (with_reducible show wpList _ _ _ (aZ _ (aW _ (aQ 4) _) _ _ _ _::_) _ _;refine wpList_store_row rfl 25 _ _ rfl (w.heap.size+2) #[aA aG 0 0] ?_ ?_ 25 _ bw ?_ ?_ ?_ ?_)
  all_goals (first | rfl | kernel_rfl | exact AB | skip)
  have z5:(w1.setRow (w.heap.size+2) #[aA aG 0 0]).heap[w.heap.size+2]?=aJ (aF #[aA aG 0 0] 25 (0,0)):=setRow_heap _ _ _ _ _ _ bw;have s:=Ab z5 0;simp only[aC,aB]at s;generalize w1.setRow (w.heap.size+2) #[aA aG 0 0]=W at t s z5⊢;exact bodyPost_ret (v:=aR #[aA aG 0 0]) (by simp[results,results13,go_sem,s]) rfl ⟨_,[],rfl,aa.out,BP _ _,t⟩
 ·have bz:=Aa bx;clear bx;have du:=DI (cs.out.V Z) cu.out;go_wp2_with (go_at_call 14;refine du.mono ?_)
  first | rintro e w2 rfl ao | rintro e w2 ⟨rfl,ao⟩
  have fu:=ao.size;have E:=Z.trans (ao.mono Z.size);have dv:=(ao.block w.heap.size (by omega)).trans ds;have dw:=(ao.block (w.heap.size+1) (by omega)).trans cx;have b1:=(ao.block (w.heap.size+2) (by omega)).trans bw;clear du ds cx bw dt ao;cases b2:AJ (os.map BAt.I)
  ·have aa:=Aa (show ([]:List BAt).map BAt.I=Bb (us.map BAt.I) (os.map BAt.I) from(JW (.inr b2)).symm);clear b2;have t:Below w.heap.size w (w2.setRow (w.heap.size+2) #[aA aG 0 0]):=⟨E.os,E.tape,E.output,by rw[setRow_size];exact E.size,fun k Q=>by rw[setRow_other _ _ _ _ (by omega)];exact E.block k Q⟩;go_wp2_with (with_reducible show wpList _ _ _ (aZ _ (aW _ (aQ 4) _) _ _ _ _::_) _ _;refine wpList_store_row rfl 25 _ _ rfl (w.heap.size+2) #[aA aG 0 0] ?_ ?_ 25 _ b1 ?_ ?_ ?_ ?_)
   all_goals (first | rfl | kernel_rfl | exact AB | skip)
   have z5:(w2.setRow (w.heap.size+2) #[aA aG 0 0]).heap[w.heap.size+2]?=aJ (aF #[aA aG 0 0] 25 (0,0)):=setRow_heap _ _ _ _ _ _ b1;have s:=Ab z5 0;simp only[aC,aB]at s;generalize w2.setRow (w.heap.size+2) #[aA aG 0 0]=W at t s z5⊢;exact bodyPost_ret (v:=aR #[aA aG 0 0]) (by simp[results,results13,go_sem,s]) rfl ⟨_,[],rfl,aa.out,BP _ _,t⟩
  ·have b3:=Aa b2;clear b2;have ap:=(aM w2.heap.size w2).alloc (aH _) (aF #[aA aG 0 0] 25)
   have dx:YZ w w2.heap.size (aA ay I az) (aA al V am) us os [] (aA aG 0 0) (w2.alloc (aF #[aA aG 0 0] 25)) :=
    ⟨E.trans (ap.mono E.size),(ap.block _ (by omega)).trans dv,(ap.block _ (by omega)).trans dw,(ap.block _ (by omega)).trans b1,Al _ _,dk.out.V (E.trans (ap.mono E.size)),cs.out.V (E.trans (ap.mono E.size)),⟨⟨rfl,aG,0,rfl,⟨aH _,bH _⟩,.inl rfl⟩,by simp⟩,⟨.inl rfl,by simp⟩,fun q cy=>As.fresh' dk.out cy,fun q cy=>As.fresh' cs.out cy,by simp,by omega⟩
   have dy:=Aa dx;have fv:V<=60/\I<=60:=by
    have h1:=(A0.1 b3.out).1;have y:=(A0.1 bz.out).1;rw[aI]at h1 y;have:=J.out;have:=an.out;omega
   have ez:=Aa (show ∀b∈os,b.ls.length<=400 from fun b r=>by
    have h1:=((A0.1 b3.out).2.1 b.I (bS r)).2.2.few;have y:=(Bf b.aa).1;simp only[BAt.I,aI]at h1;omega)
   have e0:=Aa (show ∀b∈us,b.ls.length<=400 from fun b r=>by
    have h1:=((A0.1 bz.out).2.1 b.I (bS r)).2.2.few;have y:=(Bf b.aa).1;simp only[BAt.I,aI]at h1;omega)
   clear dx ap dv dw b1;generalize e1:w2.heap.size=X at *;go_wp2;go_loopw [6] (fun i wr=>Agg w X (aA ay I az) (aA al V am) us os i wr) (fun i _=>V-(intOf i).toNat)
   case atStart =>
    (try rw[e1])
    exact⟨0,aA aG 0 0,[],rfl,bH _,rfl,by simp[It],dy.out⟩
   case round =>
    obtain⟨j,v,xs,rfl,e2,b4,be,d⟩:=hrel;rw[J.out]at e2;clear dy;have dz:=Ab d.ob 0;have cz:=Ab d.ub 0;simp only[aC,aB]at dz cz;obtain⟨xa,xc,rfl⟩:=d.bin.1.ae;by_cases fw:j<V
    ·have e3:(j:Int)<(V:Int):=by omega
     have fx:(0:Int)<=(j:Int):=by omega
     obtain⟨D,⟨bk,f,bv,l⟩,T,b5,a0⟩:=AS os j (by have:=J.out;omega);have d0:=b5;have ab:=d.oin.1;rw[b5]at ab;obtain⟨b0,off,rfl,K,L,ac⟩:=ab.block;rw[a0]at K L ac;have b6:=d.oin.2 ⟨bk,f,bv,l⟩ (by rw[b5];simp);obtain⟨ba,bc,d1⟩:=b6.1.ae;simp only at d1;subst d1;have c0:(⟨bk,f,aA ba l.length bc,l⟩:BAt)∈os:=by rw[b5];simp
     have b7:=cu.out.2 _ c0;have e4:=ez.out _ c0;have c1:=(aM wr.heap.size wr).alloc (aH _) (aF #[aD bk,aD f,aA ba l.length bc] 46);have bf:=Al wr (aF #[aD bk,aD f,aA ba l.length bc] 46);have b8:=d.V c1;have S:=GL bk f b8.uin ct.out.1;have fy:X<wr.heap.size:=(aE.1 d.xb).1;have fz:=d.bw.size;have d2:=Ab bf 0;have d3:=Ab bf 1;have d4:=Ab bf 2;have d5:=Ab b8.ub 0;simp only[aC,aB,aV]at d2 d3 d4 d5;have e5:(wr.alloc (aF #[aD bk,aD f,aA ba l.length bc] 46)).heap.size=wr.heap.size+1:=by simp
     have d6:=Aa b8;have e6:=Aa (An.fresh b6 (aH _));have d7:=Aa ((d.ofar X (by have:=d.hX;omega)).2 _ c0);have d8:=Aa (AH.V b6 c1);have e7:=Aa (d.bin.fresh' (aH _));have f0:=Aa (d.uin.fresh' (aH _));have e8:=d.hX;clear d b8 ab b6;generalize d9:l.length=nl at *;generalize bg:xs.length=c2 at *;generalize ea:us.length=f1 at *;have a1:=Aa bg;have e9:=Aa ea;have eb:=Aa d9;have b9:=Aa b4;have f2:c2<=60:=by omega
     clear bg ea d9 b4;generalize ec:wr.alloc (aF #[aD bk,aD f,aA ba nl bc] 46)=ad at *;generalize f3:wr.heap.size=R at *;go_wp2_with (go_at_call 52;(try rw[ec]);refine S.mono ?_)
     first | rintro e ca cb aq | rintro e ca ⟨cb,aq⟩
     have bh:Below ad.heap.size ad ca:=by first | exact aq | (rw[e5];exact aq)
     have z:=Aa (d6.out.V bh);have a2:=(bh.block R (by omega)).trans bf;have ed:=Ab a2 0;have ee:=Ab a2 1;have ef:=Ab a2 2;simp only[aC,aB,aV]at ed ee ef;have eg:=Aa (AH.V d8.out bh);have f4:=bh.size;have eh:=Aa be;clear S d6 d8 bf d2 d3 d4 cz d5 dz K L ac ec c1 aq bh be;rcases cb with ⟨cc,rfl⟩ | ⟨ei,⟨uk,un,c3,g⟩,f5,M,cd,rfl⟩
     ·have c4:=Aa (show BAt.I ⟨bk,f,aA ba nl bc,l⟩=EX (us.map BAt.I) (BAt.I ⟨bk,f,aA ba nl bc,l⟩) from by
       unfold EX;rw[show look (us.map BAt.I) (BAt.I ⟨bk,f,aA ba nl bc,l⟩).aa (BAt.I ⟨bk,f,aA ba nl bc,l⟩).name=aG from cc])
      clear cc;have bi:=Ab z.out.xb 0;simp only[aC,aB]at bi;have bj:=NI (kind:=bk) (name:=f) (bv:=aA ba nl bc) (bl:=l) z.out.bin (by have:=a1.out;omega) eg.out;go_wp2_with (go_at_call 54;refine bj.mono ?_)
      rintro e F ⟨q,m,p,rfl,⟨ar,h1,y,ae,af,ag⟩,G⟩;have bl:=(G.block X (aE.1 z.out.xb).1).trans z.out.xb;have z9:(F.setRow X #[aA q m p]).heap[X]?=aJ (aF #[aA q m p] 25 (0,0)):=setRow_heap _ _ _ _ _ _ bl;have c6:=Aa (z.out.put (x:=⟨bk,f,aA ba nl bc,l⟩) (aM _ _) G (Ba F X #[aA q m p]) z9 af ae ag d7.out b7);have c7:=Aa (show ar.map BAt.I=It (((os.map BAt.I).take (j+1)).map (EX (us.map BAt.I))) from by rw[h1,eh.out,<-a0,DJ BAt.I d0,bB,bV,KL];exact congrArg (fun N=>Cb blockLt N _) c4.out);have bm:=Aa y;clear bj h1 y ae af ag G z bi;go_wp2_with (with_reducible show wpList _ _ _ (aZ _ (aW _ (aQ 5) _) _ _ _ _::_) _ _;refine wpList_store_row rfl 25 _ _ rfl X #[aA q m p] ?_ ?_ 25 _ bl ?_ ?_ ?_ ?_)
      all_goals (first | rfl | kernel_rfl | exact AB | skip)
      go_roundw;case rel=>exact⟨j+1,aA q m p,ar,by go_num,by have:=J.out;omega,by have:=bm.out;have:=a1.out;have:=b9.out;omega,c7.out,c6.out⟩
      case measure=>simp[intOf];omega
     ·have f6:(0:Int)<=(ei.length:Int):=by omega
      have c8:=z.out.uin.1;rw[M]at c8;obtain⟨Y,f7,rfl,ej,ek,el⟩:=c8.block;have U:(⟨uk,un,c3,g⟩:BAt)∈us:=by rw[M];simp
      have ah:=z.out.uin.2 _ U;obtain⟨va,A,bn⟩:=ah.1.ae;simp only at bn;subst bn;have ce:=ct.out.2 _ U;have fa:=e0.out _ U;simp only at fa e4;have fb:ei.length<I:=by
       have:=congrArg bR M;have:=an.out;have:=e9.out;simp only[bC,bA]at *;omega
      have da:=Aa ((z.out.ufar X (by omega)).2 _ U);have fc:=Aa ((z.out.ufar R (by omega)).2 _ U);have bo:∀W,Below ca.heap.size ca W->Calls prog 53 #[aR #[aD uk,aD un,aA va g.length A],aR #[aD bk,aD f,aA ba nl bc]] W fun e w'=>∃q m p,e=aO (aR #[aD bk,aD f,aA q m p])/\L6P ⟨uk,un,aA va g.length A,g⟩ ⟨bk,f,aA ba nl bc,l⟩ W (aA q m p) w'/\Below W.heap.size W w':=fun W r=>by
       refine(Lj (u:=⟨uk,un,aA va g.length A,g⟩) (o:=⟨bk,f,aA ba nl bc,l⟩) (AH.V ah r) (AH.V eg.out r) ce.2 b7.2 (by have:=eb.out;simp only;omega)).mono ?_;rintro e w' ⟨a,n,c,ls,rfl,h,b⟩;exact⟨a,n,c,rfl,⟨ls,h⟩,b⟩
      have db:=Ab z.out.ub 0;simp only[aC,aB]at db;have em:=Aa (show ∀N:List PLine,N=DA (rulesOf bk) (g.map LAt.I) (l.map LAt.I)->(⟨bk,f,N⟩:PBlock)=EX (us.map BAt.I) (BAt.I ⟨bk,f,aA ba nl bc,l⟩) from fun N fd=>by
       unfold EX;rw[show look (us.map BAt.I) (BAt.I ⟨bk,f,aA ba nl bc,l⟩).aa (BAt.I ⟨bk,f,aA ba nl bc,l⟩).name=aJ (BAt.I ⟨uk,un,aA va g.length A,g⟩) from cd,fd];rfl)
      clear cd c8 ah M;generalize a4:g.length=ai at *;have fe:=Aa a4;clear a4;go_upto_region 10 with fail
      refine Yy (L6P ⟨uk,un,aA va ai A,g⟩ ⟨bk,f,aA ba nl bc,l⟩) a2 db ej ek el fb bo (by kernel_rfl) (by kernel_rfl) (by kernel_rfl) (by kernel_rfl) ?_;rintro v2 a' aj m' ak W1 W2 H O ⟨ls',dc,ff,en,dd⟩ P;simp only[Ai,CL,aN,aT,aU]at H;subst H;have eo:=(P.block R (by have:=O.size;omega)).trans ((O.block R (by omega)).trans a2);obtain⟨z3,de⟩:=N4 (k':=bk) (n':=f) (v':=aA aj m' ak) eo;have fg:R<W1.heap.size:=by have:=O.size;omega
      have S7:=Aa (((z.out.V O).V P).turn de (by omega) (by omega) e7.out);have fh:=Aa (show An (((W2.setCell ⟨R,0,aG⟩ (aD bk)).setCell ⟨R,1,aG⟩ (aD f)).setCell ⟨R,2,aG⟩ (aA aj m' ak)) (aA aj m' ak) ls' from en.far (dd R fg fc.out e6.out) de);have fi:=Aa (dd X (by omega) da.out d7.out);have fj:ls'.length<=800:=by
       have h1:=congrArg bR dc;have y:=@TZ (rulesOf bk) (g.map LAt.I) (l.map LAt.I);have:=fe.out;have:=eb.out;simp only[aI]at h1 y;omega
      have fk:(⟨bk,f,aA aj m' ak,ls'⟩:BAt).name.size<=1048576/\Ah (⟨bk,f,aA aj m' ak,ls'⟩:BAt).ls:=⟨b7.1,Ik b7.2 ce.2 ff (Nat.le_trans fj (by decide))⟩;have c4:=Aa (em.out _ dc);have t0:=Ab z3 0;have fl:=Ab z3 1;have t2:=Ab z3 2;simp only[aC,aB,aV]at t0 fl t2;clear bo z ed ee ef ej ek el db a2 eo de dc en dd O P em;generalize ((W2.setCell ⟨R,0,aG⟩ (aD bk)).setCell ⟨R,1,aG⟩ (aD f)).setCell ⟨R,2,aG⟩ (aA aj m' ak)=f8 at *;have bi:=Ab S7.out.xb 0;simp only[aC,aB]at bi;have bj:=NI (kind:=bk) (name:=f) (bv:=aA aj m' ak) (bl:=ls') S7.out.bin (by have:=a1.out;omega) fh.out;go_wp2_with (go_at_call 54;refine bj.mono ?_)
      rintro e F ⟨q,m,p,rfl,⟨ar,h1,y,ae,af,ag⟩,G⟩;have bl:=(G.block X (aE.1 S7.out.xb).1).trans S7.out.xb;have z9:(F.setRow X #[aA q m p]).heap[X]?=aJ (aF #[aA q m p] 25 (0,0)):=setRow_heap _ _ _ _ _ _ bl;have c6:=Aa (S7.out.put (x:=⟨bk,f,aA aj m' ak,ls'⟩) (aM _ _) G (Ba F X #[aA q m p]) z9 af ae ag fi.out fk);have c7:=Aa (show ar.map BAt.I=It (((os.map BAt.I).take (j+1)).map (EX (us.map BAt.I))) from by rw[h1,eh.out,<-a0,DJ BAt.I d0,bB,bV,KL];exact congrArg (fun N=>Cb blockLt N _) c4.out);have bm:=Aa y;clear bj h1 y ae af ag G S7 bi;go_wp2_with (with_reducible show wpList _ _ _ (aZ _ (aW _ (aQ 5) _) _ _ _ _::_) _ _;refine wpList_store_row rfl 25 _ _ rfl X #[aA q m p] ?_ ?_ 25 _ bl ?_ ?_ ?_ ?_)
      all_goals (first | rfl | kernel_rfl | exact AB | skip)
      go_roundw;case rel=>exact⟨j+1,aA q m p,ar,by go_num,by have:=J.out;omega,by have:=bm.out;have:=a1.out;have:=b9.out;omega,c7.out,c6.out⟩
      case measure=>simp[intOf];omega
    ·obtain rfl:j=V:=by omega
     have e3:¬((j:Int)<(j:Int)):=by omega
     have bp:(os.map BAt.I).take j=os.map BAt.I:=bJ (by rw[aI,J.out];exact aH _);rw[bp]at be;have B:=Aa d;have cf:=Aa be;clear d be bp cz;generalize bg:xs.length=c2 at *;have a1:=Aa bg;have b9:=Aa b4;clear bg b4;go_wp2;go_loopw [9] (fun i wr=>Agh w X (aA ay I az) (aA al j am) us os i wr) (fun i _=>I-(intOf i).toNat)
     case atStart=>exact⟨0,aA xa c2 xc,xs,rfl,bH _,by have:=J.out;have:=a1.out;have:=b9.out;omega,by simpa [Fm] using cf.out,B.out⟩
     case round =>
      obtain⟨k,v2,C,rfl,Q,ep,a6,d⟩:=hrel;rw[an.out]at Q;rw[J.out]at ep;clear B cf;have au:=Ab d.ub 0;have a7:=Ab d.ob 0;simp only[aC,aB]at au a7;obtain⟨cg,ch,rfl⟩:=d.bin.1.ae;by_cases f9:k<I
      ·have fm:(k:Int)<(I:Int):=by omega
       obtain⟨D,⟨uk,un,c3,g⟩,T,M,a0⟩:=AS us k (by have:=an.out;omega);have ab:=d.uin.1;rw[M]at ab;obtain⟨b0,off,rfl,K,L,ac⟩:=ab.block;rw[a0]at K L ac;have U:(⟨uk,un,c3,g⟩:BAt)∈us:=by rw[M];simp
       have ah:=d.uin.2 _ U;obtain⟨va,A,bn⟩:=ah.1.ae;simp only at bn;subst bn;have ce:=ct.out.2 _ U;have S:∀W,Below wr.heap.size wr W->Calls prog 52 #[aR #[aA al j am],aD uk,aD un] W fun e w'=>(∃N:Int,e=aO (.int .i64 N)/\decide (N<0)=(look (os.map BAt.I) uk un).isNone)/\Below W.heap.size W w':=fun W r=>by
        refine(GL uk un (d.oin.V r) cu.out.1).mono ?_;rintro e w' ⟨cb,b⟩;refine⟨?_,b⟩;rcases cb with ⟨cc,rfl⟩ | ⟨ga,b',gb,_,cd,rfl⟩
        ·exact⟨_,rfl,by rw[show look (os.map BAt.I) uk un=aG from cc];rfl⟩
        ·refine⟨_,rfl,?_⟩;rw[show look (os.map BAt.I) uk un=aJ b'.I from cd];simp only[Option.isNone_some,decide_eq_false_iff_not];omega
       have ci:=Aa (show Fm ((us.map BAt.I).take (k+1)) (os.map BAt.I)=Fm ((us.map BAt.I).take k) (os.map BAt.I)++(if (look (os.map BAt.I) uk un).isNone=true then [BAt.I ⟨uk,un,aA va g.length A,g⟩] else []) from by rw[<-a0,DJ BAt.I M,Y0];rfl);have cj:=Aa a6;have da:=Aa ((d.ufar X (by have:=d.hX;omega)).2 _ U);have gc:C.length<=120:=by omega
       cases a8:(look (os.map BAt.I) uk un).isNone
       ·rw[a8]at S;have df:=Aa (show C.map BAt.I=It ((os.map BAt.I).map (EX (us.map BAt.I))++Fm ((us.map BAt.I).take (k+1)) (os.map BAt.I)) from by rw[ci.out,a8,cj.out];simp);have B:=Aa d;clear d ab ah a6 M ci cj a8;generalize av:C.length=a9 at *;generalize a4:g.length=ai at *;have ck:=Aa av;clear av a4;go_upto_region 15 with fail
        refine P7 a7 au K L (by omega) S (by kernel_rfl) (by kernel_rfl) (by kernel_rfl) (by kernel_rfl) ?_;intro v3 a' W' H bq r;simp only[Ai,CL,aN,aT,aU,bq]at H;subst H;have bb:=Aa (B.out.V r);clear S B r K L ac au a7 bq;go_wp2;go_roundw;case rel=>exact⟨k+1,aA cg a9 ch,C,by go_num,by have:=an.out;omega,by have:=ck.out;have:=J.out;omega,df.out,bb.out⟩
        case measure=>simp[intOf];omega
       ·rw[a8]at S;have df:=Aa (show It ((os.map BAt.I).map (EX (us.map BAt.I))++Fm ((us.map BAt.I).take (k+1)) (os.map BAt.I))=Cb blockLt (BAt.I ⟨uk,un,aA va g.length A,g⟩) (C.map BAt.I) from by rw[ci.out,a8,cj.out,if_pos rfl,<-List.append_assoc,KL]);have B:=Aa d;have fn:=Aa ah;clear d ab ah a6 M ci cj a8;generalize av:C.length=a9 at *;generalize a4:g.length=ai at *;have ck:=Aa av;clear av a4;go_upto_region 15 with fail
        refine P7 a7 au K L (by omega) S (by kernel_rfl) (by kernel_rfl) (by kernel_rfl) (by kernel_rfl) ?_;intro v3 a' W' H bq r;simp only[Ai,CL,aN,aT,aU,bq]at H;subst H;have bb:=B.out.V r;have eq:=(r.cell (aK _ _ au)).trans au;have er:=(r.cell (aK _ _ K)).trans K;have es:=(r.cell (aK _ _ L)).trans L;have et:=(r.cell (aK _ _ ac)).trans ac;have bo:∀W,Below W'.heap.size W' W->Calls prog 54 #[aR #[aA cg a9 ch],aR #[aD uk,aD un,aA va ai A]] W fun e w'=>∃q m p,e=aO (aR #[aA q m p])/\Xk C (aA cg a9 ch) ⟨uk,un,aA va ai A,g⟩ W (aA q m p) w'/\Below W.heap.size W w':=fun W P=>NH (x:=⟨uk,un,aA va ai A,g⟩) (bb.bin.V P) (by have:=ck.out;omega) (AH.V (AH.V fn.out r) P)
        have br:=bb.xb;have eu:=Aa bb;clear S B K L ac au a7 bq bb;go_upto_region 16 with fail
        refine Yz (Xk C (aA cg a9 ch) ⟨uk,un,aA va ai A,g⟩) br eq er es et (by omega) bo (by kernel_rfl) (by kernel_rfl) (by kernel_rfl) (by kernel_rfl) ?_;rintro v4 a' q m p W1 W2 H O ⟨ar,h1,y,ae,af,ag⟩ P;simp only[Ai,CL,aN,aT,aU]at H;subst H;have ev:=(P.block X (by have:=O.size;have:=(aE.1 br).1;omega)).trans ((O.block X (aE.1 br).1).trans br);have z9:(W2.setCell ⟨X,0,aG⟩ (aA q m p)).heap[X]?=aJ (aF #[aA q m p] 25 (0,0)):=by rw[heap_setCell_same W2 X 0 _ _ _ ev];rfl
        have fo:=Aa (eu.out.put (x:=⟨uk,un,aA va ai A,g⟩) O P (AT W2 X 0 _) z9 af ae ag da.out ce);have cf:=Aa (h1.trans df.out.symm);have bm:=Aa y;clear bo eu h1 y ae af ag O P er es et eq br ev z9;go_wp2;go_roundw;case rel=>exact⟨k+1,aA q m p,ar,by go_num,by have:=an.out;omega,by have:=ck.out;have:=J.out;have:=bm.out;omega,cf.out,fo.out⟩
        case measure=>simp[intOf];omega
      ·obtain rfl:k=I:=by omega
       have fm:¬((k:Int)<(k:Int)):=by omega
       have bp:(us.map BAt.I).take k=us.map BAt.I:=bJ (by rw[aI,an.out];exact aH _);rw[bp]at a6;have ew:=Aa (show C.map BAt.I=It (AM (us.map BAt.I) (os.map BAt.I)) from a6);have dg:Ax C:=⟨by omega,d.aj⟩;have cl:=DI d.bin dg;rw[ew.out]at cl;have B:=Aa d;have fp:=Aa dg;have dh:=Ab d.xb 0;simp only[aC,aB]at dh;have e8:=d.hX;have gd:=(aE.1 d.xb).1;clear d a6 bp dg ep a7;generalize av:C.length=a9 at *;clear av;go_wp2_with (go_at_call 14;refine cl.mono ?_)
       first | rintro e F rfl G | rintro e F ⟨rfl,G⟩
       have bd:=B.out.V G;have aw:=bd.bw;have cm:=bd.rb;have c9:=Ab bd.xb 0;simp only[aC,aB]at c9;have ge:=G.size;have gf:=B.out.bw.size;cases cn:AJ (It (AM (us.map BAt.I) (os.map BAt.I)))
       ·have aa:=Aa (show ([]:List BAt).map BAt.I=Bb (us.map BAt.I) (os.map BAt.I) from(Aa9 bz.out b3.out cn).symm);clear cn cl B dh bd;have t:Below w.heap.size w (F.setRow (w.heap.size+2) #[aA aG 0 0]):=⟨aw.os,aw.tape,aw.output,by rw[setRow_size];exact aw.size,fun k Q=>by rw[setRow_other _ _ _ _ (by omega)];exact aw.block k Q⟩;go_wp2_with (with_reducible show wpList _ _ _ (aZ _ (aW _ (aQ 4) _) _ _ _ _::_) _ _;refine wpList_store_row rfl 25 _ _ rfl (w.heap.size+2) #[aA aG 0 0] ?_ ?_ 25 _ cm ?_ ?_ ?_ ?_)
        all_goals (first | rfl | kernel_rfl | exact AB | skip)
        have z5:(F.setRow (w.heap.size+2) #[aA aG 0 0]).heap[w.heap.size+2]?=aJ (aF #[aA aG 0 0] 25 (0,0)):=setRow_heap _ _ _ _ _ _ cm;have s:=Ab z5 0;simp only[aC,aB]at s;generalize F.setRow (w.heap.size+2) #[aA aG 0 0]=W at t s z5⊢;exact bodyPost_ret (v:=aR #[aA aG 0 0]) (by simp[results,results13,go_sem,s]) rfl ⟨_,[],rfl,aa.out,BP _ _,t⟩
       ·have aa:=Aa (show C.map BAt.I=Bb (us.map BAt.I) (os.map BAt.I) from by rw[ew.out];exact(VK bz.out b3.out cn).symm);have ex:=Fw bd.bin fp.out;clear cn cl B dh bd;go_wp2_with (go_at_call 55;refine ex.mono ?_)
        first | rintro e ad v5 rfl co cp o5 t | rintro e ad v5 co rfl cp o5 t | rintro e ad ⟨v5,co,rfl,cp,o5,t⟩
        have z5:=(t.block (w.heap.size+2) (by omega)).trans cm;have bs:=aw.trans (t.mono aw.size);have fq:=Aa (cp.trans aa.out);have fr:=Aa (o5.mono (show w.heap.size+3<=F.heap.size by omega));obtain⟨a5,c5,rfl,_⟩:=Ak o5.row;clear ex cp o5 t aa cm c9;generalize co.length=ax at *;go_wp2_with (with_reducible show wpList _ _ _ (aZ _ (aW _ (aQ 4) _) _ _ _ _::_) _ _;refine wpList_store_row rfl 25 _ _ rfl (w.heap.size+2) #[aA a5 ax c5] ?_ ?_ 25 _ z5 ?_ ?_ ?_ ?_)
        all_goals (first | rfl | kernel_rfl | exact AB | skip)
        have ey:(ad.setRow (w.heap.size+2) #[aA a5 ax c5]).heap[w.heap.size+2]?=aJ (aF #[aA a5 ax c5] 25 (0,0)):=setRow_heap _ _ _ _ _ _ z5;have aq:Below w.heap.size w (ad.setRow (w.heap.size+2) #[aA a5 ax c5]):=⟨bs.os,bs.tape,bs.output,by rw[setRow_size];exact bs.size,fun k Q=>by rw[setRow_other _ _ _ _ (by omega)];exact bs.block k Q⟩;have o6:=(fr.out.setRow (w.heap.size+2) (by omega) #[aA a5 ax c5]).mono (show w.heap.size<=w.heap.size+3 by omega);have s:=Ab ey 0;simp only[aC,aB]at s;generalize ad.setRow (w.heap.size+2) #[aA a5 ax c5]=W at aq s ey o6⊢;exact bodyPost_ret (v:=aR #[aA a5 ax c5]) (by simp[results,results13,go_sem,s]) rfl ⟨_,co,rfl,fq.out,o6,aq⟩
variable {W W':World}{n c:Nat}{v1 v2:Value}
def Im(T:List PBlock)(v:Value)(W:World):Prop:=∃bs,bs.map BAt.I=T/\As W v bs/\Ax bs
theorem Im.V{T:List PBlock}(h:Im T v W)(a:Below W.heap.size W W'):Im T v W':=by
 obtain⟨bs,h1,b,c⟩:=h;exact⟨bs,h1,b.V a,c⟩
theorem Im.len{T:List PBlock}{a:Option Addr}(h:Im T (aA a n c) W):n=T.length:=by
 obtain⟨bs,rfl,b,_⟩:=h;obtain⟨a',d,e⟩:=b.1.ae;cases e
 rw[aI]
def Xo(T:List PBlock)(w:World)(e:Ending)(w':World):Prop:=∃a n c,e=aO (aR #[aA a n c])/\Im T (aA a n c) w'/\Below w.heap.size w w'
theorem NT{U O:List PBlock}(h:BJ W)(h1:Im U v1 W)(i:Im O v2 W):Calls prog 11 #[aR #[v1],aR #[v2]] W fun e w'=>Xo (Bb U O) W e w':=by
 obtain⟨l,rfl,j,b⟩:=h1;obtain⟨m,rfl,i2,d⟩:=i;refine(RG j i2 b d h).mono ?_;rintro e w' ⟨v',bs',rfl,f,g,k⟩;obtain⟨a,c,rfl,_⟩:=Ak g.row;exact⟨a,_,c,rfl,⟨bs',f,g.bin,Lr b d f⟩,k⟩
theorem Wf{U O:List PBlock}(h1:Im U v1 W)(h:Im O v2 W):Calls prog 13 #[aR #[v1],aR #[v2]] W fun e w'=>Xo (Bb U O) W e w':=by
 obtain⟨k,rfl,i,b⟩:=h1;obtain⟨l,rfl,i2,d⟩:=h;refine(RH i i2 b d).mono ?_;rintro e w' ⟨v',bs',rfl,f,g,j⟩;obtain⟨a,c,rfl,_⟩:=Ak g.row;exact⟨a,_,c,rfl,⟨bs',f,g.bin,Lr b d f⟩,j⟩
theorem H0{T U:List PBlock}(h1:Im T v1 W)(a:Im U v2 W)(e:T=U):Calls prog 12 #[aR #[v1],aR #[v2]] W fun e w'=>e=aO (.bool true)/\Below W.heap.size W w':=by
 obtain⟨d,rfl,b,c⟩:=h1;obtain⟨f,rfl,i2,g⟩:=a;have:=Abp b i2 c;rw[EH e]at this;exact this
theorem Lu{T:List PBlock}(h:Im T v W):Calls prog 14 #[aR #[v]] W fun e w'=>e=aO (.bool (AJ T))/\Below W.heap.size W w':=by
 obtain⟨bs,rfl,i,s⟩:=h;exact DI i s
variable {TA:List PBlock}{B:Nat}{av bv cv:Value}
def Um(w:World)(e:Ending)(w':World):Prop:=∃a n c b m d TA f,e=aO (bL #[aR #[aA a n c],aR #[aA b m d]])/\(Im TA (aA a n c) w'/\Im f (aA b m d) w')/\Below w.heap.size w w'
structure Ss(w:World)(TA TB TC:List PBlock)(A B C:Nat)(av bv cv:Value)(W:World):Prop where
 bw:Below w.heap.size w W
 ca:W.cell? ⟨A,0,aG⟩=aJ av
 cb:W.cell? ⟨B,0,aG⟩=aJ bv
 cc:W.cell? ⟨C,0,aG⟩=aJ cv
 ia:Im TA av W
 ib:Im TB bv W
 ic:Im TC cv W
 st:BJ W
theorem Ss.V{b c:List PBlock}{A C:Nat}(h:Ss w TA b c A B C av bv cv W)(a:Below W.heap.size W W'):Ss w TA b c A B C av bv cv W' :=
 ⟨h.bw.trans (a.mono h.bw.size),(a.cell (aK _ _ h.ca)).trans h.ca,(a.cell (aK _ _ h.cb)).trans h.cb,(a.cell (aK _ _ h.cc)).trans h.cc,h.ia.V a,h.ib.V a,h.ic.V a,h.st.V a⟩
theorem Afc(w:World)(x y:Value):Below w.heap.size w ((w.alloc (aF #[x] 25)).alloc (aF #[y] 25))/\((w.alloc (aF #[x] 25)).alloc (aF #[y] 25)).cell? ⟨w.heap.size,0,aG⟩=aJ x/\((w.alloc (aF #[x] 25)).alloc (aF #[y] 25)).cell? ⟨w.heap.size+1,0,aG⟩=aJ y:=by
 have b0:=(aM w.heap.size w).alloc (aH _) (aF #[x] 25);have a:=(aM (w.alloc (aF #[x] 25)).heap.size (w.alloc (aF #[x] 25))).alloc (aH _) (aF #[y] 25);have z0:=Al w (aF #[x] 25);have d:=Al (w.alloc (aF #[x] 25)) (aF #[y] 25);have b:=Ab ((a.block w.heap.size (by simp)).trans z0) 0;have c:=Ab d 0;simp only[aC,aB,bD]at b c;exact⟨b0.trans (a.mono b0.size),b,c⟩
theorem Im.few{T:List PBlock}{a:Option Addr}(h:Im T (aA a n c) W):n<=1048576:=by
 rw[h.len];obtain⟨bs,rfl,_,b⟩:=h;rw[aI];exact b.1
theorem FG{T:List PBlock}(f:BJ W)(h:Im T v W):Calls prog 15 #[aR #[v]] W fun e w'=>Xo (fillS T) W e w':=by
 obtain⟨bs,rfl,i,s⟩:=h;refine(R4 i s f).mono ?_;rintro e w' ⟨v',bs',rfl,b,d,g⟩;obtain⟨a,c,rfl,_⟩:=Ak d.row;refine⟨a,_,c,rfl,⟨bs',b,d.bin,Gu ?_⟩,g⟩;rw[b];unfold fillS;split
 ·rename_i h;exact Jv (A0.1 h)
 ·exact Jz
theorem WH{T:List PBlock}(f:BJ W)(h:Im T v W):Calls prog 16 #[aR #[v]] W fun e w'=>Xo (trimS T) W e w':=by
 obtain⟨bs,rfl,i,s⟩:=h;refine(Qo i s f).mono ?_;rintro e w' ⟨v',bs',rfl,b,d,g⟩;obtain⟨a,c,rfl,_⟩:=Ak d.row;refine⟨a,_,c,rfl,⟨bs',b,d.bin,Gu ?_⟩,g⟩;rw[b];unfold trimS;split
 ·rename_i h;exact SO (A0.1 h)
 ·exact Jz
