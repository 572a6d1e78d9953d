import Derived.Test.YtpdahhnjhggocaaGreatDoorMu20
import Derived.Lib.Overlaps
import Derived.Lib.AppendZerosOnto
import Derived.Laws.IdiomCopy
import Derived.OwnWalk
open Go.Proofs.Tryz
open Go.Value renaming slice->aA,string->aB,slice->aP
open Option renaming none->aC,some->aD
open Go.World renaming block_lt_of_cell?->aE
open List renaming getElem?_toArray->aF,flatMap_append->aJ,length_append->aK,append_assoc->aL,length_take->aM,length_drop->aR,append_nil->aX,setIfInBounds_toArray->aZ,getElem?_append_right->bA,getElem?_cons_zero->bB,take_append_drop->bE,set_cons_zero->bL,mem_cons->bO
open Go.Builtin renaming zeroCells->aG,copy_->aH,firstCells->bF,append_->bM
open Go.Obj renaming cells->aI
open Go.Ending renaming returned->aN
open Array renaming getElem?_eq_some_iff->aO,toList_append->bH
open Option.some renaming inj->aQ
open Go.RowKit.Below renaming refl->aS
open Nat renaming lt_of_lt_of_le->aT,le_trans->aU,min_def->aV,le_refl->aW,add_sub_cancel_left->bC,zero_add->bD
open Go.Region renaming wanted->aY
open Go.Act renaming put->bG,eval->bK
open Go.IntKind renaming wrap_i64->bI,i64->bN
open Go.Extern.SlicesOverlaps renaming overlaps->bJ
open Go.World.ownsRow renaming kept->bP
namespace Go.Proofs.YtpdahhnjhggocaaGreatDoor
open Go.RowKit
set_option maxHeartbeats 16000000
set_option maxRecDepth 100000
variable {P:Program}{o:Oper}{a:Act}{K:Act -> World -> Prop}{Q:Exit -> Act -> World -> Prop}{v' v:Value}{w' w:World}{ops:Array Oper}{B n:Nat}{D:List BAt}
theorem E6(w:World)(d k l e:TypeId)(i:TypeInfo)(b o f m:Nat)(a:Addr)(g p n:Nat)(cs:List Value)
  (q:P.underlying d=aD (.slice e)) (r:P.info? e=aD i) (s:Nat.min g f=n) (t:cs.length=n*i.size)
  (u:∀j v,cs[j]?=aD v->w.cell? (a.add j)=aD v) (h:∀j,j<cs.length->(w.cell? ⟨b,o+j,aC⟩).isSome=true/\w.frozen? ⟨b,o+j,aC⟩=false) (h1:∀v∈cs,v.oneCell'=true) :
  (aH #[d,k] l #[aA (aD ⟨b,o,aC⟩) f m,aA (aD a) g p]).run P w=.ok (goInt n) (w.setCells b o cs):=by
 have x:=run_loadCells_list (P:=P) w a cs u;have y:=run_storeCells_cells (P:=P) b o cs 0 w (by simpa using fun j c=>(h j c).1) (by simpa using fun j c=>(h j c).2) h1;simp[aH,run_underlying q,Builtin.lenOf,bF,sizeOf,typeInfo,r,s,<-t,x,y]
theorem PK(P:Program)(w:World)(d s:Operand)(t b:TypeId)
  (c:o.op=.call { callee:=.builtin .copy,args:=#[d,s],argTypes:=#[t,b] }) (v u:Value) (e:a.eval d=v) (f:a.eval s=u)
  (g:(aH #[t,b] o.type #[v,u]).run P w=.ok v' w') (h:K (a.put o.dst v') w'):o.wp P a w K Q:=by
 unfold Oper.wp execOp;simp only[c,resolve,invoke,builtin,Sem.run_bind,Sem.run_pure,Result.andThen_ok,List.map_toArray,List.map_cons,List.map_nil,e,f,g];exact h
theorem IJ(w:World){rest:List Oper}(c:o.guard=aC)(d s:Operand)(t b:TypeId)
  (e:o.op=.call { callee:=.builtin .copy,args:=#[d,s],argTypes:=#[t,b] }) (v u:Value) (f:a.eval d=v) (g:a.eval s=u)
  (i:(aH #[t,b] o.type #[v,u]).run P w=.ok v' w') (h:wpList P ops Q rest (a.put o.dst v') w'):wpList P ops Q (o::rest) a w :=
 wpList_plain c fun _ j=>PK P w d s t b e v u f g i (j _ _ h)
theorem Lv{E:Prop}
  (e:o.guard=aC) (d x:Operand) (b c:TypeId) (f:o.op=Op.call { callee:=Callee.builtin Builtin.copy,args:=#[d,x],argTypes:=#[b,c] })
  (v u:Value) (g:a.eval d=v) (h:a.eval x=u) (i:(aH #[b,c] o.type #[v,u]).run P w=.ok v' w') (j:K (a.put o.dst v') w') :
  if aY o (yielded ops a.tmps)=true then Oper.wp P o a w K Q else E:=by
 rw[if_pos (by simp[aY,e])];exact PK P w d x b c f v u g h i j
def Fb(B n:Nat)(v:Value)(xs:List Value)(w:World)(e:Ending)(w':World):Prop:=∃ao a,e=aN (aA ao (n+1) a)/\w'.ownsRow B 46 3 (aA ao (n+1) a) (n+1) xs/\w.grownBy w' v.ownBlock/\((aP ao (n+1) a).ownBlock=v.ownBlock\/(aP ao (n+1) a).ownBlock=aD w.heap.size)
theorem Wp{vb:Nat}{b:BAt}(t:B<=w.heap.size)(h:w.ownsRow B 46 3 v n (D.flatMap BAt.cells))(F:D.length=n)(J:n<=1048576)(f:AA w vb b.cells.toArray 46)(l:∃a m c,b.v=aA a m c):
  Calls prog 223 #[v,.int .i64 (n:Int),aA (aD ⟨vb,0,aC⟩) 1 1] w fun e w'=>Fb B n v ((D++[b]).flatMap BAt.cells) w e w':=by
 obtain⟨i0,x,z,A,C⟩:=info_parts Bg;obtain⟨va,d,rfl,G⟩:=Ak h;have E:=(AG h).cap;obtain⟨K,L,M,l⟩:=l;have o:=Aa (show Ap w (aA (aD ⟨vb,0,aC⟩) 1 1) 1 3 b.cells from⟨rfl,aD ⟨vb,0,aC⟩,1,rfl,⟨aW _,by unfold maxLen;omega⟩,.inr ⟨vb,0,rfl,fun j u H=>by rw[Ab f,bD,aF];exact H⟩⟩);have h1:=Aa (show ∀y∈b.cells,y.oneCell'=true from by intro y p;unfold BAt.cells at p;rw[l]at p;simp at p;rcases p with rfl | rfl | rfl <;> rfl)
 have q:=Aa h;have N:(0:Int)<=(n:Int):=by omega
 have O:(n:Int)<=(d:Int):=by have:=E.1;omega
 have P:n<=d:=E.1;have r:(D++[b]).flatMap BAt.cells=D.flatMap BAt.cells++b.cells:=by simp
 clear h f l G F;by_cases I:d=n
 ·subst I;go_enter func223,ntmps223;go_wp2_with (at_builtin;refine A8 (by rfl) _ _ 23 (by rfl) B 46 i0 _ 3 56 underlying23 x z A C rfl (by decide) _ _ _ (by rfl) q.out _ 1 _ (by rfl) o.out h1.out ?c3 ?c4 t ?_)
  case c3=>unfold maxLen;omega
  case c4=>omega
  intro ao g w' i k f;have s:=Aa (show Fb B d (aA va d d) ((D++[b]).flatMap BAt.cells) w (aN (aA ao (d+1) g)) w' from⟨ao,g,rfl,by rw[r];exact i,k,f⟩);clear i k f o h1 q r;go_wp2;exact bodyPost_ret (v:=aA ao (d+1) g) (by simp[results,results223,go_sem]) rfl s.out
 ·go_enter func223,ntmps223;go_wp2_with (at_builtin;refine A8 (by rfl) _ _ 23 (by rfl) B 46 i0 _ 3 56 underlying23 x z A C rfl (by decide) _ _ _ (by rfl) q.out _ 1 _ (by rfl) o.out h1.out ?c3 ?c4 t ?_)
  case c3=>unfold maxLen;omega
  case c4=>omega
  intro ao g w' i k f;have s:=Aa (show Fb B n (aA va n d) ((D++[b]).flatMap BAt.cells) w (aN (aA ao (n+1) g)) w' from⟨ao,g,rfl,by rw[r];exact i,k,f⟩);clear i k f o h1 q r;go_wp2;exact bodyPost_ret (v:=aA ao (n+1) g) (by simp[results,results223,go_sem]) rfl s.out
variable {g i:Nat}{xs:List Value}{cs:Array Value}{T:List BAt}
theorem Wq{cap:Nat}(h:w.ownsRow B 46 3 (aA (aD ⟨g,0,aC⟩) n cap) n xs)(d:n+1<=cap):∃ys,ys.length=3/\w.ownsRow B 46 3 (aA (aD ⟨g,0,aC⟩) (n+1) cap) (n+1) (xs++ys):=by
 obtain⟨e,h⟩:=h;rcases h with ⟨h,_⟩ | ⟨m,o,a,f,i,j,p,k,b,l⟩
 ·cases h
 ·cases f
  have c:a.toList.length=cap*3:=by simpa using b
  refine⟨(a.toList.drop (n*3)).take 3,by rw[aM,aR,c];omega,?_,.inr ⟨g,cap,a,rfl,i,j,d,k,b,?_⟩⟩
  ·rw[aK,e,aM,aR,c];omega
  ·rw[<-l,show (n+1)*3=n*3+3 by omega,List.take_add]
theorem Uu{T:TypeId}(h:w.heap[g]?=aD (aI cs T (0,0))):w.shape? g=aD (T,cs.size):=by
 unfold World.shape?;rw[h]
theorem YH{cap:Nat}(h:w.ownsRow B 46 3 (aA (aD ⟨g,0,aC⟩) n cap) n xs):∃a:Array Value,w.heap[g]?=aD (aI a 46 (0,0))/\a.size=cap*3:=by
 rcases h.2 with ⟨h,_⟩ | ⟨e,f,a,b,_,c,_,_,d,_⟩
 ·cases h
 ·cases b;exact⟨a,c,d⟩
theorem Sc{cap vb:Nat}{b:BAt}(h:w.ownsRow B 46 3 (aA (aD ⟨g,0,aC⟩) n cap) n ((D++T).flatMap BAt.cells))(G:(D++T).length=n)(H:D.length=i)(al:i<n)(ac:n+1<=cap)(am:n<=1048576)(l:AA w vb b.cells.toArray 46)(I:vb≠g)(s:∃a m c,b.v=aA a m c)(J:∀y∈D++T,∃a m c,y.v=aA a m c):
  Calls prog 223 #[aA (aD ⟨g,0,aC⟩) n cap,.int .i64 (i:Int),aA (aD ⟨vb,0,aC⟩) 1 1] w fun e w'=>Fb B n (aA (aD ⟨g,0,aC⟩) n cap) ((D++b::T).flatMap BAt.cells) w e w':=by
 obtain⟨i0,z,an,A,ao⟩:=info_parts Bg;have ad:n<=cap/\cap<=maxLen:=(AG h).cap;have ap:cap<=9223372036854775807:=ad.2;have K:T.length=n-i:=by simp at G;omega
 have q:(T.flatMap BAt.cells).length=(n-i)*3:=by rw[Bn BAt.cells 3 BAt.len,K]
 have r:(D.flatMap BAt.cells).length=i*3:=by rw[Bn BAt.cells 3 BAt.len,H]
 obtain⟨aq,ar,au,s⟩:=s;have L:=Fu (bs:=T) (fun y o=>J y (by simp[o]));have M:∀y∈b.cells,y.oneCell'=true:=by intro y o;unfold BAt.cells at o;rw[s]at o;simp at o;rcases o with rfl | rfl | rfl <;> rfl
 obtain⟨ys,N,C⟩:=Wq h ac;have O:(D++T).flatMap BAt.cells++ys=(D.flatMap BAt.cells++(T.flatMap BAt.cells++ys).take 3)++(T.flatMap BAt.cells++ys).drop 3++[]:=by
  rw[aX,aL,bE,aJ,aL]
 have x:(T.flatMap BAt.cells++ys).length=(n-i)*3+3:=by rw[aK,q,N]
 obtain⟨av,E,F,P⟩:=BT (T.flatMap BAt.cells) ((i+1)*3) w.drew _ (show w.drew.ownsRow B 46 3 (aA (aD ⟨g,0,aC⟩) (n+1) cap) (n+1) _ from C);have Q:=P _ _ _ O (by rw[aK,r,aM,x];omega) (by rw[aR,x,q];omega);obtain⟨aw,R,S,U⟩:=BT b.cells (i*3) _ _ E;have V:=U (D.flatMap BAt.cells) ((T.flatMap BAt.cells++ys).take 3) (T.flatMap BAt.cells) (by rw[Q];simp) r (by rw[aM,x,BAt.len];omega);have p:=Ar F S;have W:=CJ C ((i+1)*3) ((n-i)*3) (by omega);have X:=CJ E (i*3) 3 (by omega);have Y:∀t u,(T.flatMap BAt.cells)[t]?=aD u->w.cell? ⟨g,i*3+t,aC⟩=aD u:=fun t u ae=>by
  have:=h.cells rfl (i*3+t) u (by rw[aJ,bA (by rw[r];omega),r,bC];exact ae);simpa [Ge] using this
 have af:vb<w.heap.size:=(aO.1 (show w.heap[vb]?=_ from l)).1;have Z:AA (w.drew.setCells g ((i+1)*3) (T.flatMap BAt.cells)) vb b.cells.toArray 46:=(F.block vb af (by intro e;exact I (aQ e))).trans l;have ag:∀d f sc,(aH #[23,23] d #[aA (aD ⟨g,(i+1)*3,aC⟩) (n-i) f,aA (aD ⟨g,i*3,aC⟩) (n+1-i) sc]).run prog w.drew=.ok (goInt ((n-i:Nat):Int)) (w.drew.setCells g ((i+1)*3) (T.flatMap BAt.cells)):=fun d f sc =>
  E6 w.drew _ _ d _ i0 g ((i+1)*3) (n-i) f ⟨g,i*3,aC⟩ (n+1-i) sc (n-i) _ underlying23 z (by simp only[aV];split <;> omega) (by rw[A];exact q) (fun j v k=>by rw[Ge];exact Y j v k) (fun j k=>W j (by rw[<-q];exact k)) L
 have ah:∀d f,(aH #[23,23] d #[aA (aD ⟨g,i*3,aC⟩) (n+1-i) f,aA (aD ⟨vb,0,aC⟩) 1 1]).run prog (w.drew.setCells g ((i+1)*3) (T.flatMap BAt.cells))=.ok (goInt 1) ((w.drew.setCells g ((i+1)*3) (T.flatMap BAt.cells)).setCells g (i*3) b.cells):=fun d f =>
  E6 _ _ _ d _ i0 g (i*3) (n+1-i) f ⟨vb,0,aC⟩ 1 1 1 _ underlying23 z (by simp only[aV];split <;> omega) (by rw[A];rfl) (fun j v k=>by rw[Ge,bD,Ab Z,aF];exact k) (fun j k=>X j k) M
 obtain⟨ax,aa,ab⟩:=YH h;have ai:∀lb cb,(callFunc 244 #[aA (aD ⟨vb,0,aC⟩) 1 1,aA (aD ⟨g,(i+1)*3,aC⟩) lb cb]).run prog w=.ok (.value (.bool false)) w:=fun lb cb=>by
  rw[run_callFunc_extern func244 (by kernel_rfl) (by kernel_rfl) (by kernel_rfl) (e:=bJ #[23,23] #[4]) (by kernel_rfl),
   Lib.run_overlaps_apart w 23 4 46 underlying23 3 (fun w=>by simp[Go.sizeOf,typeInfo,z,A]) ⟨vb,0,aC⟩ ⟨g,(i+1)*3,aC⟩ 1 1 lb cb I _ _ _ _ (Uu l) (Uu aa) (by rw[ab];omega) (Ad l _) (Ad l _)]
  rfl
 have aj:=Aa (show Fb B n (aA (aD ⟨g,0,aC⟩) n cap) ((D++b::T).flatMap BAt.cells) w (aN (aA (aD ⟨g,0,aC⟩) (n+1) cap)) ((w.drew.setCells g ((i+1)*3) (T.flatMap BAt.cells)).setCells g (i*3) b.cells) from⟨_,_,rfl,by rw[show (D++b::T).flatMap BAt.cells=D.flatMap BAt.cells++b.cells++T.flatMap BAt.cells by simp,<-V];exact R,⟨p.os,p.tape,p.output,p.size,p.block⟩,.inl rfl⟩);have mixed:Tryz.prog.follows .mixedOrders=true:=by kernel_rfl
 have ay:(0:Int)<=(i:Int):=by omega
 have az:(i:Int)<=(n:Int):=by omega
 have a0:(n:Int)<=(cap:Int):=by omega
 have ak:¬((i:Int)=(n:Int)):=by omega
 have a1:((i:Int)==(n:Int))=false:=by simpa using ak
 have a2:¬((cap:Int)<(n:Int)+1):=by omega
 have a3:(n:Int)+1<=(cap:Int):=by omega
 have a4:(0:Int)<=(i:Int)+1:=by omega
 have a5:(0:Int)<=(n:Int)+1:=by omega
 have a6:((i:Int)+1).toNat=i+1:=by omega
 have a7:((n:Int)+1).toNat=n+1:=by omega
 have a8:¬(cap=i+1):=by omega
 have a9:¬(cap=i):=by omega
 have ba:(i:Int)<=(n:Int)+1:=by omega
 have bb:(i:Int)+1<=(n:Int)+1:=by omega
 have m15:(i:Int)<=(cap:Int):=by omega
 have m16:¬(i=n):=by omega
 have bc:bN.wrap ((i:Int)+1)=(i:Int)+1:=by rw[bI];omega
 clear h C E R F S P U Q V O x N W X Y Z aa ab p L M q r K G H s J l;generalize bd:w.drew.setCells g ((i+1)*3) (T.flatMap BAt.cells)=W1 at *;generalize be:W1.setCells g (i*3) b.cells=W2 at *;go_enter func223,ntmps223;go_wp2_with (simp only[ai])
 go_region_law_o (refine Lv rfl _ _ 23 23 rfl _ _ (by simp[bK,bG]) (by simp[bK,bG]) (ag _ _ _) ?_)
 go_wp2_with (at_builtin;refine IJ _ rfl _ _ 23 23 rfl _ _ rfl rfl (ah _ _) ?_)
 exact bodyPost_ret (v:=aA (aD ⟨g,0,aC⟩) (n+1) cap) (by simp[results,results223,go_sem]) rfl aj.out
theorem Uv{cap vb:Nat}{b:BAt}(h:w.ownsRow B 46 3 (aA (aD ⟨g,0,aC⟩) n cap) n ((D++T).flatMap BAt.cells))(V:(D++T).length=n)(W:D.length=i)(bc:i<n)(aw:B<=w.heap.size)(ax:cap<n+1)(bd:n<=1048576)(I:AA w vb b.cells.toArray 46)(_:vb≠g)(F:∃a m c,b.v=aA a m c)(X:∀y∈D++T,∃a m c,y.v=aA a m c):
  Calls prog 223 #[aA (aD ⟨g,0,aC⟩) n cap,.int .i64 (i:Int),aA (aD ⟨vb,0,aC⟩) 1 1] w fun e w'=>Fb B n (aA (aD ⟨g,0,aC⟩) n cap) ((D++b::T).flatMap BAt.cells) w e w':=by
 obtain⟨i0,J,ay,K,Y⟩:=info_parts Bg;have az:n<=cap/\cap<=maxLen:=(AG h).cap;have be:cap<=9223372036854775807:=az.2;have Z:T.length=n-i:=by simp at V;omega
 have G:(T.flatMap BAt.cells).length=(n-i)*3:=by rw[Bn BAt.cells 3 BAt.len,Z]
 have q:(D.flatMap BAt.cells).length=i*3:=by rw[Bn BAt.cells 3 BAt.len,W]
 obtain⟨bf,bg,bh,F⟩:=F;have aa:=Fu (bs:=T) (fun y A=>X y (by simp[A]));have ab:∀y∈b.cells,y.oneCell'=true:=by intro y A;unfold BAt.cells at A;rw[F]at A;simp at A;rcases A with rfl | rfl | rfl <;> rfl
 have a0:cap=n:=by omega
 subst a0;have bi:0<cap:=by omega
 have bj:vb<w.heap.size:=(aO.1 (show w.heap[vb]?=_ from I)).1;have ac:g<w.heap.size:=(h.lt g rfl).2;have ad:∀t u,(T.flatMap BAt.cells)[t]?=aD u->w.cell? ⟨g,i*3+t,aC⟩=aD u:=fun t u L=>by
  have:=h.cells rfl (i*3+t) u (by rw[aJ,bA (by rw[q];omega),q,bC];exact L);simpa [Ge] using this
 have ae:(bF i0.size i (aA (aD ⟨g,0,aC⟩) i cap)).run prog w.drew=.ok (D.flatMap BAt.cells).toArray w.drew:=by
  rw[K];exact run_firstCells_some w.drew 3 i ⟨g,0,aC⟩ i cap (D.flatMap BAt.cells) q (fun j v o=>by
   have:=h.cells rfl j v (by rw[aJ,List.getElem?_append_left (aO.1 (by rw[aF];exact o)).1];exact o);exact this)
 have M:i+(cap+1-i)=cap+1:=by omega
 obtain⟨s,O⟩:∃s,s=(Value.agg #[aB ⟨#[]⟩,aB ⟨#[]⟩,aA aC 0 0]).cells:=⟨_,rfl⟩;have af:(cap:Int)+1-(i:Int)=((cap+1-i:Nat):Int):=by omega
 have ag:∀d,(bM #[23,3] d #[aA (aD ⟨g,0,aC⟩) i cap,.int .i64 ((cap:Int)+1-(i:Int))]).run prog w=.ok (aA (aD ⟨w.heap.size,0,aC⟩) (cap+1) (grownCap w (cap+1) cap 46)) (w.drew.alloc (aI ((D.flatMap BAt.cells).toArray++aG s (cap+1-i)++aG s (grownCap w (cap+1) cap 46-(cap+1))) 46)):=fun d=>by
  have ah:=Lib.run_append_grow_zeros w 23 3 d 46 i0 _ .i64 .i64 underlying23 underlying3 J ay (aD ⟨g,0,aC⟩) i cap (D.flatMap BAt.cells) ae (cap+1-i) (by omega) (by omega) (by omega) (by omega) (by rw[Y];omega) (by rw[Y,M];exact growslice_fits ax (by omega));rw[M]at ah;rw[af,O];exact ah
 have a1:cap+1<=grownCap w (cap+1) cap 46:=grownCap_ge w _ _ _;have ai:grownCap w (cap+1) cap 46<=maxLen:=grownCap_le_maxLen w (cap+1) cap 46 (by unfold maxLen;omega);have P:∀k,(aG s k).size=k*3:=fun k=>by rw[O];simp[aG,Value.cells]
 generalize grownCap w (cap+1) cap 46=f at *;obtain⟨r,Q⟩:∃r,r=(aG s (cap+1-i)).toList:=⟨_,rfl⟩;have E:r.length=(cap+1-i)*3:=by rw[Q,Array.length_toList,P]
 obtain⟨l,H⟩:∃l,l=(D.flatMap BAt.cells).toArray++aG s (cap+1-i)++aG s (f-(cap+1)):=⟨_,rfl⟩;have aj:l.size=f*3:=by rw[H];simp only[Array.size_append,P,List.size_toArray,q];omega
 have ak:l.toList.take ((cap+1)*3)=D.flatMap BAt.cells++r:=by
  rw[H,bH,bH,<-Q,show (cap+1)*3=(D.flatMap BAt.cells++r).length by rw[aK,q,E];omega];exact List.take_left
 have R:(w.alloc (aI l 46)).drew.ownsRow B 46 3 (aA (aD ⟨w.heap.size,0,aC⟩) (cap+1) f) (cap+1) (D.flatMap BAt.cells++r):=⟨by rw[aK,q,E];omega,.inr ⟨w.heap.size,f,l,rfl,aw,Al w _,a1,ai,aj,ak⟩⟩;have a2:∀d,(bM #[23,3] d #[aA (aD ⟨g,0,aC⟩) i cap,.int .i64 ((cap:Int)+1-(i:Int))]).run prog w=.ok (aA (aD ⟨w.heap.size,0,aC⟩) (cap+1) f) (w.alloc (aI l 46)).drew:=fun d=>by rw[ag d,H];rfl
 have ba:Below w.heap.size w (w.alloc (aI l 46)).drew:=((aS w.heap.size w).alloc (aW _) _).drew;obtain⟨a3,S,x,al⟩:=BT b.cells (i*3) _ _ R;have am:=al (D.flatMap BAt.cells) (r.take 3) (r.drop 3) (by rw[aL,bE]) q (by rw[aM,E,BAt.len];omega);have an:=CJ R (i*3) 3 (by omega);have ao:=I.V ba;have a4:∀d z,(aH #[23,23] d #[aA (aD ⟨w.heap.size,i*3,aC⟩) (cap+1-i) z,aA (aD ⟨vb,0,aC⟩) 1 1]).run prog (w.alloc (aI l 46)).drew=.ok (goInt 1) ((w.alloc (aI l 46)).drew.setCells w.heap.size (i*3) b.cells):=fun d z =>
  E6 _ _ _ d _ i0 w.heap.size (i*3) (cap+1-i) z ⟨vb,0,aC⟩ 1 1 1 _ underlying23 J (by simp only[aV];split <;> omega) (by rw[K];rfl) (fun j v o=>by rw[Ge,bD,Ab ao,aF];exact o) (fun j o=>an j o) ab
 generalize a5:(w.alloc (aI l 46)).drew=W1 at *;have ap:∀j u,w.cell? ⟨g,j,aC⟩=aD u->(W1.setCells w.heap.size (i*3) b.cells).drew.cell? ⟨g,j,aC⟩=aD u:=fun j u L=>by
  have a6:W1.cell? ⟨g,j,aC⟩=aD u:=(ba.cell (p:=⟨g,j,aC⟩) ac).trans L;have a7:=x.cell_far ⟨g,j,aC⟩ (show g<W1.heap.size from aT ac ba.size) (fun e=>by have bk:g=w.heap.size:=aQ e;omega);exact a7.trans a6
 obtain⟨bl,aq,C,ar⟩:=BT (T.flatMap BAt.cells) ((i+1)*3) (W1.setCells w.heap.size (i*3) b.cells).drew _ (show (W1.setCells w.heap.size (i*3) b.cells).drew.ownsRow B 46 3 _ _ _ from S);have au:=ar (D.flatMap BAt.cells++b.cells) (r.drop 3) [] (by rw[am,aX]) (by rw[aK,q,BAt.len];omega) (by rw[aR,E,G];omega);have av:=CJ (show (W1.setCells w.heap.size (i*3) b.cells).drew.ownsRow B 46 3 (aA (aD ⟨w.heap.size,0,aC⟩) (cap+1) f) (cap+1) a3 from S) ((i+1)*3) ((cap-i)*3) (by omega);have a8:∀d z sc,(aH #[23,23] d #[aA (aD ⟨w.heap.size,(i+1)*3,aC⟩) (cap-i) z,aA (aD ⟨g,i*3,aC⟩) (cap-i) sc]).run prog (W1.setCells w.heap.size (i*3) b.cells).drew=.ok (goInt ((cap-i:Nat):Int)) ((W1.setCells w.heap.size (i*3) b.cells).drew.setCells w.heap.size ((i+1)*3) (T.flatMap BAt.cells)):=fun d z sc =>
  E6 _ _ _ d _ i0 w.heap.size ((i+1)*3) (cap-i) z ⟨g,i*3,aC⟩ (cap-i) sc (cap-i) _ underlying23 J (by simp only[aV];split <;> omega) (by rw[K];exact G) (fun j v o=>by rw[Ge];exact ap _ v (ad j v o)) (fun j o=>av j (by rw[<-G];exact o)) aa
 have a9:=Aa (show Fb B cap (aA (aD ⟨g,0,aC⟩) cap cap) ((D++b::T).flatMap BAt.cells) w (aN (aA (aD ⟨w.heap.size,0,aC⟩) (cap+1) f)) ((W1.setCells w.heap.size (i*3) b.cells).drew.setCells w.heap.size ((i+1)*3) (T.flatMap BAt.cells)) from⟨_,_,rfl,by rw[show (D++b::T).flatMap BAt.cells=D.flatMap BAt.cells++b.cells++T.flatMap BAt.cells++[] by simp,<-au];exact aq,⟨C.os.trans (x.os.trans ba.os),C.tape.trans (x.tape.trans ba.tape),C.output.trans (x.output.trans ba.output),aU ba.size (aU x.size C.size),fun k U _=>(C.block k (aT U (aU ba.size x.size)) (by intro e;have:=aQ e;omega)).trans ((x.block k (aT U ba.size) (by intro e;have:=aQ e;omega)).trans (ba.block k U))⟩,.inr rfl⟩);have mixed:Tryz.prog.follows .mixedOrders=true:=by kernel_rfl
 have bm:(0:Int)<=(i:Int):=by omega
 have bn:(i:Int)<=(cap:Int):=by omega
 have bb:¬((i:Int)=(cap:Int)):=by omega
 have bo:((i:Int)==(cap:Int))=false:=by simpa using bb
 have bp:((cap:Int)<(cap:Int)+1):=by omega
 have bq:(0:Int)<=(i:Int)+1:=by omega
 have br:(0:Int)<=(cap:Int)+1:=by omega
 have bt:((i:Int)+1).toNat=i+1:=by omega
 have bu:¬(f=i+1):=by omega
 have bv:¬(f=i):=by omega
 have bw:(i:Int)<=(cap:Int)+1:=by omega
 have bx:(i:Int)+1<=(cap:Int)+1:=by omega
 have m16:¬(i=cap):=by omega
 have m17:¬(cap=i):=by omega
 have bz:f<=9223372036854775807:=ai;have b0:bN.wrap ((i:Int)+1)=(i:Int)+1:=by rw[bI];omega
 clear h R S aq x C al ar am au an av ad ao aa ab G q Z V W F X I ae ag H aj ak Q E P O ap ba a5 af M;generalize W1.setCells w.heap.size (i*3) b.cells=W2 at *;generalize W2.drew.setCells w.heap.size ((i+1)*3) (T.flatMap BAt.cells)=W3 at *;generalize w.heap.size=N at *;go_enter func223,ntmps223
 go_wp2_with (first
  | (at_builtin;refine Lib.wpList_append_run _ rfl _ _ _ _ rfl _ _ rfl rfl _ _ (a2 _) ?_)
  | (at_builtin;refine IJ _ rfl _ _ 23 23 rfl _ _ rfl rfl (a4 _ _) ?_))
 go_region_law_o (refine Lv rfl _ _ 23 23 rfl _ _ (by simp[bK,bG]) (by simp[bK,bG]) (a8 _ _ _) ?_)
 go_wp2;exact bodyPost_ret (v:=aA (aD ⟨N,0,aC⟩) (cap+1) f) (by simp[results,results223,go_sem]) rfl a9.out
variable {M:Nat}{bs bs':List BAt}
theorem Uz{vb:Nat}{b:BAt}(o:B<=w.heap.size)(h:w.ownsRow B 46 3 v n ((D++T).flatMap BAt.cells))(d:(D++T).length=n)(f:D.length=i)(j:n<=1048576)(k:AA w vb b.cells.toArray 46)(s:v.ownBlock≠aD vb)(l:∃a m c,b.v=aA a m c)(p:∀y∈D++T,∃a m c,y.v=aA a m c):
  Calls prog 223 #[v,.int .i64 (i:Int),aA (aD ⟨vb,0,aC⟩) 1 1] w fun e w'=>Fb B n v ((D++b::T).flatMap BAt.cells) w e w':=by
 cases T with
 | nil =>
  rw[aX]at h d;have u:i=n:=by rw[<-f,<-d]
  subst u;exact Wp o h d j k l
 | cons t T =>
  obtain⟨va,x,rfl,z⟩:=Ak h;have q:i<n:=by rw[<-d,<-f];simp
  obtain⟨g,rfl⟩:∃g,va=aD ⟨g,0,aC⟩:=by
   rcases z with e | ⟨g,e⟩
   ·omega
   ·exact⟨g,e⟩
  have r:vb≠g:=fun e=>s (by rw[e];rfl)
  by_cases A:n+1<=x
  ·exact Sc h d f q A j k r l p
  ·exact Uv h d f q o (by omega) j k r l p
theorem Az.box{L:List MRow}{T:TypeId}(h:Az B w L)(b:AA w M cs T)(c:∀r∈L,T≠r.e)(d:w.grownBy w' (aD M)):Az B w' L :=
 ⟨fun r a=>bP (h.1 r a) d (.inr (JQ b (h.1 r a) (c r a))),h.2⟩
theorem Lx{T:TypeId}(h1:T≠46)(c:T≠115)(d:T≠9):∀r∈Dr v bs,T≠r.e:=by
 intro r a;unfold Dr at a;rcases bO.1 a with rfl | a
 ·exact h1
 ·obtain⟨b,_,a⟩:=List.mem_flatMap.1 a;unfold BAt.ah CE at a;rcases bO.1 a with rfl | a
  ·exact c
  ·obtain⟨x,_,rfl⟩:=List.mem_map.1 a;exact d
def Wv(B:Nat)(w:World):Prop:=∃w0,BJ w0/\Below w0.heap.size w0 w/\w0.heap.size<=B
theorem Wv.at(h:Wv B w):BJ w:=by
 obtain⟨w0,h1,a,_⟩:=h;exact h1.V a
theorem Wv.V(h:Wv B w)(b:Below B w w'):Wv B w':=by
 obtain⟨w0,h1,c,a⟩:=h;exact⟨w0,h1,c.trans (b.mono a),a⟩
structure Mk(B M:Nat)(p:Int)(w:World)(v:Value)(bs:List BAt):Prop where
 box:AA w M #[v,.int .i64 p] 176
 low:B<=M
 own:Aq B w v bs
 std:Wv B w
theorem Mk.V{p:Int}(h:Mk B M p w v bs)(a:Below w.heap.size w w'):Mk B M p w' v bs :=
 ⟨h.box.V a,h.low,h.own.V a,h.std.V (a.mono (by have:=h.low;have:=h.box.lt;omega))⟩
theorem Mk.size{p:Int}(h:Mk B M p w v bs):B<=w.heap.size:=by have:=h.low;have:=h.box.lt;omega
def Ev(B M:Nat)(p:Int)(O:Option (List PBlock))(w:World)(e:Ending)(w':World):Prop:=Below B w w'/\((O=aC/\e=.panicked (Lw p))\/∃A v' bs',O=aD A/\e=aN (.tuple #[])/\bs'.map BAt.I=A/\Mk B M p w' v' bs')
theorem Mk.lay{p:Int}(a:AA w M #[v,.int .i64 p] 176)(b:B<=M)(e:Wv B w)(f:Aq B w v' bs')(g:w'=w.setCell ⟨M,0,aC⟩ v'):Mk B M p w' v' bs'/\Below B w w':=by
 subst g;have c:=CM w M 0 v';have d:Below B w (w.setCell ⟨M,0,aC⟩ v'):=Bh (aS B w) (by have:=a.lt;omega) b c;have h1:=a.set 0 v';simp only[aZ,bL]at h1;exact⟨⟨h1,b,Az.box f a (Lx (by decide) (by decide) (by decide)) c,e.V d⟩,d⟩
theorem Ww{S:World->Prop}{Q:Act->Prop}{rest:List Oper}(b:aY o (yielded ops a.tmps)=false)(h:D8 P ops S Q rest (a.put o.dst undef)):D8 P ops S Q (o::rest) a :=
 Av (fun K c=>by rw[if_neg (by rw[b];simp)];exact c _ h)
theorem OM{b:BAt}(h:Az B w (b.ah++Dr v (D++T)))(a:(D++T).length=n)(c:w'.ownsRow B 46 3 v' (n+1) ((D++b::T).flatMap BAt.cells))(d:w.grownBy w' v.ownBlock)(e:v'.ownBlock=v.ownBlock\/v'.ownBlock=aD w.heap.size):Aq B w' v' (D++b::T):=by
 have h1:Az B w (⟨v,46,3,(D++T).length,(D++T).flatMap BAt.cells⟩::(b.ah++(D++T).flatMap BAt.ah)):=h.perm (by unfold Dr;exact List.perm_middle);have f:=h1.grow (r':=⟨v',46,3,n+1,(D++b::T).flatMap BAt.cells⟩) c d e;have g:Az B w' (⟨v',46,3,n+1,(D++b::T).flatMap BAt.cells⟩::(D++b::T).flatMap BAt.ah):=f.perm (List.Perm.cons _ (by
  rw[aJ,aJ,List.flatMap_cons];rw[<-aL,<-aL];exact List.Perm.append_right _ List.perm_append_comm))
 unfold Aq Dr;rw[show (D++b::T).length=n+1 by rw[<-a];simp;omega];exact g
theorem Sd{p:Int}{b:BAt}(t:Mk B M p w v (D++T))(ad:Az B w (b.ah++Dr v (D++T)))(ar:D.length=i)(bx:(D++T).length<=60)(ae:Ah b.ls)(au:b.name.size<=1048576):
  Calls prog 172 #[.pointer (aD ⟨M,0,aC⟩),.int .i64 (i:Int),.agg #[aB b.aa,aB b.name,b.v]] w fun e w'=>Ev B M p (if headFault ((D++T).map BAt.I) b.aa b.name=0/\linesB (rulesOf b.aa) (b.ls.map LAt.I)=true then aD ((D++b::T).map BAt.I) else aC) w e w':=by
 obtain⟨bk,bn,bv,k⟩:=b;have af:An w bv k:=(show A5 B w bv k from ad.left).lin;obtain⟨ba,bc,rfl⟩:=af.1.ae;obtain⟨va,j,rfl,bf⟩:=Ak t.own.row;have b0:=(aS w.heap.size w).alloc (aW _) (aI #[aB bk,aB bn,aA ba k.length bc] 46);have k0:=A3 (w:=w) (cs:=#[aB bk,aB bn,aA ba k.length bc]) (T:=46) 0;have z:=A3 (w:=w) (cs:=#[aB bk,aB bn,aA ba k.length bc]) (T:=46) 1;have A:=A3 (w:=w) (cs:=#[aB bk,aB bn,aA ba k.length bc]) (T:=46) 2;have x:=t.V b0;have c0:=Ab x.box 0;have C:=Ab x.box 1;simp only[aF,bB,List.getElem?_cons_succ]at k0 z A c0 C;have av:=Aa (ad.V b0);have aw:=Aa x;have bg:=Aa (af.V b0);have bz:=Aa ae;have ax:∀W,Below (w.alloc (aI #[aB bk,aB bn,aA ba k.length bc] 46)).heap.size (w.alloc (aI #[aB bk,aB bn,aA ba k.length bc] 46)) W->Calls prog 66 #[aA va (D++T).length j,aB bk,aB bn] W fun e w'=>e=aN (.int .i64 (headFault ((D++T).map BAt.I) bk bn))/\Below W.heap.size W w':=fun W J=>Gh bk bn (x.own.bin.V J) (by omega) au
 have ay:∀W,Below (w.alloc (aI #[aB bk,aB bn,aA ba k.length bc] 46)).heap.size (w.alloc (aI #[aB bk,aB bn,aA ba k.length bc] 46)) W->Calls prog 67 #[.agg #[aB bk,aB bn,aA ba k.length bc]] W fun e w'=>e=aN (.bool (linesB (rulesOf bk) (k.map LAt.I)))/\Below W.heap.size W w':=fun W J=>Fv bk bn (bg.out.V J) ae (x.std.V (J.mono x.size)).at
 have az:=Aa (show ∀W,W.ownsRow B 46 3 (aA va (D++T).length j) (D++T).length ((D++T).flatMap BAt.cells)->∀vb,AA W vb #[aB bk,aB bn,aA ba k.length bc] 46->B<=W.heap.size->(aP va (D++T).length j).ownBlock≠aD vb->Calls prog 223 #[aA va (D++T).length j,.int .i64 (i:Int),aA (aD ⟨vb,0,aC⟩) 1 1] W fun e w'=>Fb B (D++T).length (aA va (D++T).length j) ((D++(⟨bk,bn,aA ba k.length bc,k⟩:BAt)::T).flatMap BAt.cells) W e w' from fun W h1 vb ag bh bi=>Uz bh h1 rfl ar (by omega) ag bi ⟨_,_,_,rfl⟩ (fun y bj=>by obtain⟨a,c,e⟩:=(t.own.bin.2 y bj).1.ae;exact⟨a,_,c,e⟩));have bl:=Aa (fun q (ah:(aP va (D++T).length j).ownBlock=aD q)=>(t.own.row.lt q ah).2);have ai:=t.size;have b1:=t.box.lt;obtain⟨O,aj⟩:∃O,(if headFault ((D++T).map BAt.I) bk bn=0/\linesB (rulesOf bk) (k.map LAt.I)=true then aD ((D++(⟨bk,bn,aA ba k.length bc,k⟩:BAt)::T).map BAt.I) else aC)=O:=⟨_,rfl⟩;rw[aj];have ak:=Aa aj;clear aj t ad af ae au x bf;generalize headFault ((D++T).map BAt.I) bk bn=a0 at *;generalize linesB (rulesOf bk) (k.map LAt.I)=bm at *;generalize a1:(D++T).length=n at *;have a2:=Aa a1;clear a1 ar;generalize k.length=g at *;have b2:(w.alloc (aI #[aB bk,aB bn,aA ba g bc] 46)).heap.size=w.heap.size+1:=by simp
 generalize a3:w.alloc (aI #[aB bk,aB bn,aA ba g bc] 46)=W0 at *;have bo:=Aa a3;clear a3;have o:=Aa (show ∀u,Below W0.heap.size W0 u->u.cell? ⟨M,0,aC⟩=aD (aA va n j)/\u.cell? ⟨M,1,aC⟩=aD (.int .i64 p)/\u.cell? ⟨w.heap.size,0,aC⟩=aD (aB bk)/\u.cell? ⟨w.heap.size,1,aC⟩=aD (aB bn)/\u.cell? ⟨w.heap.size,2,aC⟩=aD (aA ba g bc) from fun u H=>⟨(H.cell (aE W0 _ c0)).trans c0,(H.cell (aE W0 _ C)).trans C,(H.cell (aE W0 _ k0)).trans k0,(H.cell (aE W0 _ z)).trans z,(H.cell (aE W0 _ A)).trans A⟩);have t0:∀q:{ W:World // W.cell? ⟨M,0,aC⟩=aD (aA va n j)/\W.cell? ⟨M,1,aC⟩=aD (.int .i64 p)/\W.cell? ⟨w.heap.size,0,aC⟩=aD (aB bk)/\W.cell? ⟨w.heap.size,1,aC⟩=aD (aB bn)/\W.cell? ⟨w.heap.size,2,aC⟩=aD (aA ba g bc) },q.1.cell? ⟨M,0,aC⟩=aD (aA va n j):=fun q=>q.2.1
 have t2:∀q:{ W:World // W.cell? ⟨M,0,aC⟩=aD (aA va n j)/\W.cell? ⟨M,1,aC⟩=aD (.int .i64 p)/\W.cell? ⟨w.heap.size,0,aC⟩=aD (aB bk)/\W.cell? ⟨w.heap.size,1,aC⟩=aD (aB bn)/\W.cell? ⟨w.heap.size,2,aC⟩=aD (aA ba g bc) },q.1.cell? ⟨w.heap.size,0,aC⟩=aD (aB bk):=fun q=>q.2.2.2.1
 have t3:∀q:{ W:World // W.cell? ⟨M,0,aC⟩=aD (aA va n j)/\W.cell? ⟨M,1,aC⟩=aD (.int .i64 p)/\W.cell? ⟨w.heap.size,0,aC⟩=aD (aB bk)/\W.cell? ⟨w.heap.size,1,aC⟩=aD (aB bn)/\W.cell? ⟨w.heap.size,2,aC⟩=aD (aA ba g bc) },q.1.cell? ⟨w.heap.size,1,aC⟩=aD (aB bn):=fun q=>q.2.2.2.2.1
 have t4:∀q:{ W:World // W.cell? ⟨M,0,aC⟩=aD (aA va n j)/\W.cell? ⟨M,1,aC⟩=aD (.int .i64 p)/\W.cell? ⟨w.heap.size,0,aC⟩=aD (aB bk)/\W.cell? ⟨w.heap.size,1,aC⟩=aD (aB bn)/\W.cell? ⟨w.heap.size,2,aC⟩=aD (aA ba g bc) },q.1.cell? ⟨w.heap.size,2,aC⟩=aD (aA ba g bc):=fun q=>q.2.2.2.2.2
 letI bp:Inhabited { W:World // W.cell? ⟨M,0,aC⟩=aD (aA va n j)/\W.cell? ⟨M,1,aC⟩=aD (.int .i64 p)/\W.cell? ⟨w.heap.size,0,aC⟩=aD (aB bk)/\W.cell? ⟨w.heap.size,1,aC⟩=aD (aB bn)/\W.cell? ⟨w.heap.size,2,aC⟩=aD (aA ba g bc) }:=⟨⟨W0,c0,C,k0,z,A⟩⟩;have a4:Below W0.heap.size W0 W0.drew:=(aS _ _).drew;go_enter func172,ntmps172;go_upto_region 1 with fail
 rw[bo.out];refine C5 (R:=fun c w'=>c=Lw p/\Below B w w'/\O=aC) (S:=fun W=>W.cell? ⟨M,0,aC⟩=aD (aA va n j)/\W.cell? ⟨M,1,aC⟩=aD (.int .i64 p)/\W.cell? ⟨w.heap.size,0,aC⟩=aD (aB bk)/\W.cell? ⟨w.heap.size,1,aC⟩=aD (aB bn)/\W.cell? ⟨w.heap.size,2,aC⟩=aD (aA ba g bc)) 15 16 (by kernel_rfl) rfl (fun c a w' bq h=>⟨bq,h.2.1,.inl ⟨h.2.2,by rw[h.1]⟩⟩) ?_;refine BX [true,true,true,true,true,true,true,true,true,false,false,false,false,false,false,false] 7 rfl (by kernel_rfl) ⟨c0,C,k0,z,A⟩ ?_;simp only[AU,AV,AR];iterate 9 (refine Av (fun K d=>?_);go_simp;refine d _ ?_;clear d K)
 refine A4 ?_;refine Ae (f:=6) (rs:=[9]) (by kernel_rfl) (by simp) ?_;refine Af.cons rfl (by decide) (fun K d=>?_) Af.nil;go_simp;go_wp2_with (go_at_call 66;refine(ax _ a4).mono ?_;first | rintro e u1 rfl a5 | rintro e u1 ⟨rfl,a5⟩)
 have r:=a4.trans a5;refine d.out _ _ (o.out _ r) ?_;clear d K ax;by_cases al:a0=0
 ·subst al;refine BX [false,false,false,false,false,false,false,false,false,false,true,true,true,false,false,false] 3 rfl (by kernel_rfl) (o.out _ r) ?_;simp only[AU,AV,AR];iterate 2 (refine Av (fun K d=>?_);go_simp;refine d _ ?_;clear d K)
  refine Av (fun K d=>?_);rw[if_pos (by kernel_rfl)];go_simp;refine d _ ?_;clear d K;refine A4 ?_;refine Ae (f:=2) (rs:=[13]) (by kernel_rfl) (by simp) ?_;refine Af.cons rfl (by decide) (fun K d=>?_) Af.nil;rw[if_pos (by kernel_rfl)];go_simp;go_wp2_with (go_at_call 67;refine(ay _ r).mono ?_;first | rintro e u2 rfl a6 | rintro e u2 ⟨rfl,a6⟩)
  have m:=r.trans (a6.mono r.size);refine d.out _ _ (o.out _ m) ?_;clear d K ay;refine BX [false,false,false,false,false,false,false,false,false,false,false,false,false,false,true,false] 1 rfl (by kernel_rfl) (o.out _ m) ?_;simp only[AU,AV,AR];refine Av (fun K d=>?_);go_simp;refine d _ ?_;clear d K;refine A4 ?_;refine AK (by kernel_rfl) rfl (by kernel_rfl) ?_;intro K d;clear t0 t2 t3 t4;have E:=o.out _ m;have L:=E.2.1;cases bm
  ·have am:=Aa (show O=aC from by rw[<-ak.out,if_neg (by simp)]);have an:=(b0.trans (m.mono b0.size)).mono ai;go_simp;go_wp2_with (go_at_call 173;refine(Cg (p:=p) L).mono ?_;rintro e w2 ⟨rfl,rfl⟩)
   exact CD.panic rfl ⟨rfl,an,am.out⟩
  ·go_simp;go_wp2_with (go_at_call 173;refine(D9 M _).mono ?_;rintro e w2 ⟨rfl,rfl⟩)
   refine d.out _ _ (CD.normal ?_);clear d K o bp;have N:=aw.out.V m;have P:=E.1;have Q:=E.2.2.1;have V:=E.2.2.2.1;have X:=E.2.2.2.2;have F:=(aS w2.heap.size w2).alloc (aW _) (aI #[aB bk,aB bn,aA ba g bc] 46);have I:=F.drew;have Y:=N.own.row;rw[a2.out]at Y;have a7:(aP va n j).ownBlock≠aD w2.heap.size:=fun e=>by have:=(Y.lt _ e).2;omega
   have a8:=az.out (w2.alloc (aI #[aB bk,aB bn,aA ba g bc] 46)).drew (AL Y I) w2.heap.size (AA.new w2 _ _) (aU N.size I.size) a7;have s:=Aa (N.V I);have br:=Aa ((av.out.V m).V I);have bs:=((b0.trans (m.mono b0.size)).trans (I.mono (by have:=b0.size;have:=m.size;omega))).mono ai;have b3:w.heap.size<w2.heap.size:=by have:=m.size;omega
   have G:(aP va n j).ownBlock≠aD w.heap.size:=fun e=>absurd (bl.out _ e) (by omega)
   clear E N Y a7 av aw c0 C k0 z A L az;have t0:∀q:{ W:World // W.cell? ⟨M,0,aC⟩=aD (aA va n j)/\W.cell? ⟨w.heap.size,0,aC⟩=aD (aB bk)/\W.cell? ⟨w.heap.size,1,aC⟩=aD (aB bn)/\W.cell? ⟨w.heap.size,2,aC⟩=aD (aA ba g bc) },q.1.cell? ⟨M,0,aC⟩=aD (aA va n j):=fun q=>q.2.1
   have t2:∀q:{ W:World // W.cell? ⟨M,0,aC⟩=aD (aA va n j)/\W.cell? ⟨w.heap.size,0,aC⟩=aD (aB bk)/\W.cell? ⟨w.heap.size,1,aC⟩=aD (aB bn)/\W.cell? ⟨w.heap.size,2,aC⟩=aD (aA ba g bc) },q.1.cell? ⟨w.heap.size,0,aC⟩=aD (aB bk):=fun q=>q.2.2.1
   have t3:∀q:{ W:World // W.cell? ⟨M,0,aC⟩=aD (aA va n j)/\W.cell? ⟨w.heap.size,0,aC⟩=aD (aB bk)/\W.cell? ⟨w.heap.size,1,aC⟩=aD (aB bn)/\W.cell? ⟨w.heap.size,2,aC⟩=aD (aA ba g bc) },q.1.cell? ⟨w.heap.size,1,aC⟩=aD (aB bn):=fun q=>q.2.2.2.1
   have t4:∀q:{ W:World // W.cell? ⟨M,0,aC⟩=aD (aA va n j)/\W.cell? ⟨w.heap.size,0,aC⟩=aD (aB bk)/\W.cell? ⟨w.heap.size,1,aC⟩=aD (aB bn)/\W.cell? ⟨w.heap.size,2,aC⟩=aD (aA ba g bc) },q.1.cell? ⟨w.heap.size,2,aC⟩=aD (aA ba g bc):=fun q=>q.2.2.2.2
   letI b4:Inhabited { W:World // W.cell? ⟨M,0,aC⟩=aD (aA va n j)/\W.cell? ⟨w.heap.size,0,aC⟩=aD (aB bk)/\W.cell? ⟨w.heap.size,1,aC⟩=aD (aB bn)/\W.cell? ⟨w.heap.size,2,aC⟩=aD (aA ba g bc) }:=⟨⟨w2,P,Q,V,X⟩⟩;go_upto_region 2 with fail
   refine AW (S:=fun W=>W.cell? ⟨M,0,aC⟩=aD (aA va n j)/\W.cell? ⟨w.heap.size,0,aC⟩=aD (aB bk)/\W.cell? ⟨w.heap.size,1,aC⟩=aD (aB bn)/\W.cell? ⟨w.heap.size,2,aC⟩=aD (aA ba g bc)) 11 12 (by kernel_rfl) rfl ?_;refine AF [true,true,true,true,true,true,true,false,false,false,false,false] 5 rfl (by kernel_rfl) ⟨P,Q,V,X⟩ ?_;simp only[AU,AV,AR];iterate 7 (refine Av (fun K d=>?_);go_simp;refine d _ ?_;clear d K)
   refine A4 ?_;clear t0 t2 t3 t4;refine Ae (f:=4) (rs:=[7]) (by kernel_rfl) (by simp) ?_;refine Af.cons rfl (by decide) (fun K d=>?_) Af.nil;go_simp;have bt:=F.drew;have a9:(w2.alloc (aI #[aB bk,aB bn,aA ba g bc] 46)).drew.cell? ⟨M,0,aC⟩=aD (aA va n j):=(F.cell (aE w2 _ P)).trans P;have Z:(w2.alloc (aI #[aB bk,aB bn,aA ba g bc] 46)).drew.cell? ⟨w.heap.size,0,aC⟩=aD (aB bk):=(F.cell (aE w2 _ Q)).trans Q;have aa:(w2.alloc (aI #[aB bk,aB bn,aA ba g bc] 46)).drew.cell? ⟨w.heap.size,1,aC⟩=aD (aB bn):=(F.cell (aE w2 _ V)).trans V;have ab:(w2.alloc (aI #[aB bk,aB bn,aA ba g bc] 46)).drew.cell? ⟨w.heap.size,2,aC⟩=aD (aA ba g bc):=(F.cell (aE w2 _ X)).trans X;refine d.out _ _ ⟨a9,Z,aa,ab⟩ ?_;clear d K;have b5:w2.heap.size<=(w2.alloc (aI #[aB bk,aB bn,aA ba g bc] 46)).drew.heap.size:=bt.size;generalize (w2.alloc (aI #[aB bk,aB bn,aA ba g bc] 46)).drew=U at *;refine Ae (f:=3) (rs:=[8]) (by kernel_rfl) (by simp) ?_;refine Af.cons rfl (by decide) (fun K d=>?_) Af.nil;go_simp;go_wp2_with (go_at_call 223;refine a8.mono ?_;rintro e w3 ⟨ao,bu,rfl,bb,l,bd⟩)
   have ac:AA w3 M #[aA va n j,.int .i64 p] 176:=(l.block M s.out.box.lt (fun e=>JQ s.out.box (s.out.own.row) (by decide) e.symm)).trans s.out.box;have ap:=Ab ac 0;have fr:=Ad ac 0;simp only[aF,bB]at ap;refine d.out _ _ ⟨ap,(l.cell_far ⟨w.heap.size,0,aC⟩ (by show w.heap.size<U.heap.size;omega) (fun e=>G e.symm)).trans Z,(l.cell_far ⟨w.heap.size,1,aC⟩ (by show w.heap.size<U.heap.size;omega) (fun e=>G e.symm)).trans aa,(l.cell_far ⟨w.heap.size,2,aC⟩ (by show w.heap.size<U.heap.size;omega) (fun e=>G e.symm)).trans ab⟩ ?_;clear d K;have aq:Below B U w3:=(aS B U).grown l s.out.size (fun q ah=>(s.out.own.row.lt q ah).1);have be:=Aa (OM br.out a2.out bb l bd);have bw:=Aa (show Ev B M p O w (aN (.tuple #[])) (w3.setCell ⟨M,0,aC⟩ (aA ao (n+1) bu)) from by
    obtain⟨h1,ag⟩:=Mk.lay ac s.out.low (s.out.std.V aq) be.out rfl;exact⟨(bs.trans aq).trans ag,.inr ⟨_,_,_,by rw[<-ak.out,if_pos ⟨trivial,trivial⟩],rfl,rfl,h1⟩⟩)
   refine AF [false,false,false,false,false,false,false,false,false,true,true,false] 1 rfl (by kernel_rfl) ⟨ap,(l.cell_far ⟨w.heap.size,0,aC⟩ (by show w.heap.size<U.heap.size;omega) (fun e=>G e.symm)).trans Z,(l.cell_far ⟨w.heap.size,1,aC⟩ (by show w.heap.size<U.heap.size;omega) (fun e=>G e.symm)).trans aa,(l.cell_far ⟨w.heap.size,2,aC⟩ (by show w.heap.size<U.heap.size;omega) (fun e=>G e.symm)).trans ab⟩ ?_;simp only[AU,AV,AR];iterate 2 (refine Av (fun K d=>?_);go_simp;refine d _ ?_;clear d K)
   refine A4 ?_;clear bb l bd a8 be aq ac a9 Z aa ab;refine AK (by kernel_rfl) rfl (by kernel_rfl) ?_;intro K d;go_simp;refine d.out _ _ (NoPanic.normal ?_);clear d K;go_wp2;go_end0
   exact bw.out
 ·have b6:(a0==0)=false:=by simpa using al
  have am:=Aa (show O=aC from by rw[<-ak.out,if_neg (fun h=>al h.1)]);refine BX [false,false,false,false,false,false,false,false,false,false,true,true,true,true,true,false] 1 rfl (by kernel_rfl) (o.out _ r) ?_;simp only[AU,AV,AR];iterate 2 (refine Av (fun K d=>?_);go_simp;refine d _ ?_;clear d K)
  iterate 2 (refine Ww (by kernel_rfl) ?_;simp only[bG,aZ,bL,List.set_cons_succ])
  refine Av (fun K d=>?_);go_simp;refine d _ ?_;clear d K;refine A4 ?_;refine AK (by kernel_rfl) rfl (by kernel_rfl) ?_;intro K d;clear t0 t2 t3 t4;have L:=(o.out _ r).2.1;have an:=(b0.trans (r.mono b0.size)).mono ai;go_simp;go_wp2_with (go_at_call 173;refine(Cg (p:=p) L).mono ?_;rintro e w2 ⟨rfl,rfl⟩)
  exact CD.panic rfl ⟨rfl,an,am.out⟩
