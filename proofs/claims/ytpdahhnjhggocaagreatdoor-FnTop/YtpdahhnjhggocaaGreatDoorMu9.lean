import Derived.Test.YtpdahhnjhggocaaGreatDoorMu8
import Derived.Deep.MidRow
import Derived.Lib.SliceRun
open Go.Proofs.Tryz
open Go.Value renaming slice->aA,string->aB,slice->aM
open List renaming flatMap_append->aC,flatMap_cons->aH,map_append->aI,getElem?_eq_getElem->aK,mem_cons_of_mem->aQ,pairwise_cons->aS,mem_flatMap->aW,length_map->aX,mem_cons->bd,map_cons->be,getElem?_cons_zero->bf,flatMap_singleton->bg,set_append_right->bh,perm_append_comm->bi,getElem?_toArray->bj,mem_singleton->bl,mem_cons_self->bn,length_append->bo,take_length->bq,perm_middle->br,not_mem_nil->bt,cons_append->bu,append_nil->bw,length->bz
open Option renaming some->aD,none->aE
open Nat renaming le_refl->aF,le_trans->aO,add_assoc->aR
open Go.Obj renaming cells->aG
open Go.RowKit.Below renaming refl->aJ
open Go.World renaming block_lt_of_cell?->aL,ownsRow_lit->aN,ownsRow_nil->aT,size_alloc->aU
open Go.Ending renaming returned->aP
open Go.Builtin renaming append_->aV,firstCells->bk,lenOf->bv
open Go.World.ownsRow renaming kept->aY
open Go.Region renaming wanted->aZ
open Go.Proofs.Tryz renaming prog->bp
open Go.World.grownBy renaming refl->bx
namespace Go.Proofs.YtpdahhnjhggocaaGreatDoor
open Go.RowKit
set_option maxHeartbeats 16000000
set_option maxRecDepth 100000
variable {w w':World}{base n g B B':Nat}{e:TypeId}{v:Value}{xs:List Value}{cs:Array Value}{α β:Type}
theorem Tb(a:w.grownBy w' aE):Below w.heap.size w w':=by
 obtain⟨b,c,g3,g4,d⟩:=a;exact⟨b,c,g3,g4,fun k e=>d k e (by intro h;cases h)⟩
theorem GI{size:Nat}(h:w.ownsRow base e size v n xs)(g:Nat)(l:g<base)(cs:Array Value):(w.setRow g cs).ownsRow base e size v n xs:=by
 refine⟨h.1,?_⟩;rcases h.2 with a | ⟨b,c,d,f,i,j,k⟩
 ·exact Or.inl a
 ·exact Or.inr ⟨b,c,d,f,i,by rw[setRow_other _ _ _ _ (by omega)];exact j,k⟩
theorem Ho{o1 o2 o3:Obj}:(((w.alloc o1).alloc o2).alloc o3).heap.size=w.heap.size+3/\(((w.alloc o1).alloc o2).alloc o3).heap[w.heap.size]?=aD o1/\(((w.alloc o1).alloc o2).alloc o3).heap[w.heap.size+1]?=aD o2/\(((w.alloc o1).alloc o2).alloc o3).heap[w.heap.size+2]?=aD o3:=by
 refine⟨by simp,?_,?_,?_⟩
 ·rw[Cj _ _ _ (by simp;omega),Cj _ _ _ (by simp),Al]
 ·rw[Cj _ _ _ (by simp)];have:=Al (w.alloc o1) o2
  rwa [aU]at this
 ·have:=Al ((w.alloc o1).alloc o2) o3
  rwa [aU,aU]at this
theorem Ab{T:TypeId}(h:w.heap[g]?=aD (aG cs T (0,0)))(j:Nat):w.cell? ⟨g,j,aE⟩=cs[j]?:=by
 unfold World.cell?;rw[h];rfl
theorem Ad{T:TypeId}(h:w.heap[g]?=aD (aG cs T (0,0)))(j:Nat):w.frozen? ⟨g,j,aE⟩=false:=by
 unfold World.frozen?;rw[h];simp
theorem BT{cap size:Nat}(a:List Value):∀(o:Nat) (w:World) (xs:List Value),w.ownsRow base e size (aA (aD ⟨g,0,aE⟩) n cap) n xs->∃ys,(w.setCells g o a).ownsRow base e size (aA (aD ⟨g,0,aE⟩) n cap) n ys/\w.grownBy (w.setCells g o a) (aD g)/\∀A B C,xs=A++B++C->A.length=o->B.length=a.length->ys=A++a++C:=by
 induction a with
 | nil =>
  intro o w xs h;refine⟨xs,h,⟨rfl,rfl,rfl,aF _,fun _ _ _=>rfl⟩,fun A B C d f c=>?_⟩;rw[d,List.length_eq_zero_iff.1 c]
 | cons v a j =>
  intro o w xs h;have i:=h.stored o v;obtain⟨ys,h1,k,l⟩:=j (o+1) _ _ i.1;refine⟨ys,h1,Ar i.2 k,fun A B C d f c=>?_⟩
  match B,c with
  | b::B,c =>
   have:=l (A++[v]) B C (by rw[d];rw[List.append_assoc,bh _ _ (by omega),f,Nat.sub_self];simp) (by simp;omega) (by simpa using c);rw[this];simp
theorem CJ{cap size:Nat}(h:w.ownsRow base e size (aA (aD ⟨g,0,aE⟩) n cap) n xs)(o k:Nat)(a:o+k<=n*size):w.there g o k:=by
 intro j b;refine⟨?_,h.frozenAt (o+j)⟩;rw[h.cellAt (o+j) (by omega),aK (by have:=h.1;omega)];rfl
def LAt.row(x:LAt):MRow:=⟨x.v,9,1,x.ws.length,strs x.ws⟩
def CE(v:Value)(ls:List LAt):List MRow:=⟨v,115,2,ls.length,ls.flatMap LAt.cells⟩::ls.map LAt.row
def A5(B:Nat)(w:World)(v:Value)(ls:List LAt):Prop:=Az B w (CE v ls)
theorem A5.row{ls:List LAt}(h:A5 B w v ls):w.ownsRow B 115 2 v ls.length (ls.flatMap LAt.cells):=Az.head h
theorem A5.words{ls:List LAt}(h:A5 B w v ls)(x:LAt)(a:x∈ls):w.ownsRow B 9 1 x.v x.ws.length (strs x.ws):=h.1 x.row (aQ _ (List.mem_map_of_mem a))
theorem A5.lin{ls:List LAt}(h:A5 B w v ls):An w v ls:=⟨AG h.row,fun x a=>AG (h.words x a)⟩
theorem A5.V{ls:List LAt}(h:A5 B w v ls)(a:Below w.heap.size w w'):A5 B w' v ls:=Az.V h a
theorem A5.mono{ls:List LAt}(h:A5 B w v ls)(a:B'<=B):A5 B' w v ls:=Az.mono h a
theorem Gq{size:Nat}(h:w.ownsRow base e size v n xs)(a:w.grownBy w' (aD g))(c:g<base):w'.ownsRow base e size v n xs:=by
 refine aY h a ?_;cases b:v.ownBlock with
 | none=>exact Or.inl rfl
 | some q =>
  right;have:=(h.lt q b).1;intro e;cases e
  omega
theorem Az.other{L:List MRow}(h:Az B w L)(a:w.grownBy w' (aD g))(b:g<B):Az B w' L:=⟨fun r c=>Gq (h.1 r c) a b,h.2⟩
theorem Az.setCell{L:List MRow}(h:Az B w L)(p:Addr)(a:p.block<B)(u:Value):Az B (w.setCell p u) L:=⟨fun r b=>BA (h.1 r b) p a u,h.2⟩
theorem Az.setRow{L:List MRow}(h:Az B w L)(g:Nat)(a:g<B)(cs:Array Value):Az B (w.setRow g cs) L:=⟨fun r b=>GI (h.1 r b) g a cs,h.2⟩
theorem CK:(bp.info? 115).map (fun i=>(i.zero,i.size,i.bytes))=aD (aD (.agg #[aB ⟨#[]⟩,aA aE 0 0]),2,40):=by kernel_rfl
theorem A5.setCell{ls:List LAt}(h:A5 B w v ls)(p:Addr)(a:p.block<B)(u:Value):A5 B (w.setCell p u) v ls:=Az.setCell h p a u
theorem A5.setRow{ls:List LAt}(h:A5 B w v ls)(g:Nat)(a:g<B)(cs:Array Value):A5 B (w.setRow g cs) v ls:=Az.setRow h g a cs
def BAt.ah(b:BAt):List MRow:=CE b.v b.ls
def Dr(v:Value)(bs:List BAt):List MRow:=⟨v,46,3,bs.length,bs.flatMap BAt.cells⟩::bs.flatMap BAt.ah
def Aq(B:Nat)(w:World)(v:Value)(bs:List BAt):Prop:=Az B w (Dr v bs)
theorem Aq.row{bs:List BAt}(h:Aq B w v bs):w.ownsRow B 46 3 v bs.length (bs.flatMap BAt.cells):=Az.head h
theorem Ft(f:α->List β){L:List α}{x:α}(a:x∈L):∃A C,L.flatMap f=A++(f x++C):=by
 obtain⟨A,C,rfl⟩:=List.append_of_mem a;exact⟨A.flatMap f,C.flatMap f,by simp⟩
theorem Aq.ac{bs:List BAt}(h:Aq B w v bs)(x:BAt)(a:x∈bs):A5 B w x.v x.ls:=by
 obtain⟨A,C,e⟩:=Ft BAt.ah a;have h1:=Az.tail h;rw[e]at h1;exact h1.right.left
theorem Aq.bin{bs:List BAt}(h:Aq B w v bs):As w v bs:=⟨AG h.row,fun x a=>(h.ac x a).lin⟩
theorem Aq.V{bs:List BAt}(h:Aq B w v bs)(a:Below w.heap.size w w'):Aq B w' v bs:=Az.V h a
theorem Aq.mono{bs:List BAt}(h:Aq B w v bs)(a:B'<=B):Aq B' w v bs:=Az.mono h a
theorem Bg:(bp.info? 46).map (fun i=>(i.zero,i.size,i.bytes))=aD (aD (.agg #[aB ⟨#[]⟩,aB ⟨#[]⟩,aA aE 0 0]),3,56):=by kernel_rfl
theorem Aq.setCell{bs:List BAt}(h:Aq B w v bs)(p:Addr)(a:p.block<B)(u:Value):Aq B (w.setCell p u) v bs:=Az.setCell h p a u
theorem Aq.setRow{bs:List BAt}(h:Aq B w v bs)(g:Nat)(a:g<B)(cs:Array Value):Aq B (w.setRow g cs) v bs:=Az.setRow h g a cs
variable {P:Program}{o:Oper}{a:Act}{K:Act -> World -> Prop}{Q:Exit -> Act -> World -> Prop}{ops:Array Oper}{r':MRow}{ls:List LAt}{bs:List BAt}
theorem Ge(b off j:Nat):(⟨b,off,aE⟩:Addr).add j=⟨b,off+j,aE⟩:=by unfold Addr.add;split <;> simp_all
theorem L5(base:Nat)(t d e:TypeId)(i:TypeInfo)(size:Nat)(a:P.underlying t=aD (.slice e))(b:P.info? e=aD i)(v:Value)(n:Nat)(xs:List Value)(f:w.ownsRow base e size v n xs)(ao:Option Addr)(c:Nat):
  (aV #[t,t] d #[v,aA ao 0 c]).run P w=.ok v w:=by
 rcases f.2 with ⟨rfl,rfl⟩ | ⟨g,j,k,rfl,_,_,h,_⟩
 ·cases ao <;> simp[aV,run_underlying a,sizeOf,typeInfo,b,bv,bk,loadCells,loadCellsFrom]
 ·cases ao <;> simp[aV,run_underlying a,sizeOf,typeInfo,b,bv,bk,h,storeCells,loadCells,loadCellsFrom]
theorem Gg(s x:Operand)(t:TypeId)
  (p:o.op=.call { callee:=.builtin .append,args:=#[s,x],argTypes:=#[t,t] })
  (base:Nat) (e:TypeId) (i:TypeInfo) (z:Value) (size bytes:Nat) (q:P.underlying t=aD (.slice e)) (r:P.info? e=aD i) (F:i.zero=aD z)
  (G:i.size=size) (H:i.bytes=bytes) (I:z.cells.size=size) (J:0<size)
  (v:Value) (n:Nat) (xs:List Value) (A:a.eval s=v) (k:w.ownsRow base e size v n xs)
  (u:Value) (m:Nat) (d:List Value) (B:a.eval x=u) (L:Ap w u m size d) (h1:∀y∈d,y.oneCell'=true)
  (M:n+m<=maxLen) (N:(n+m)*bytes<=140737488355328) (O:base<=w.heap.size)
  (h:∀ao c w',w'.ownsRow base e size (aA ao (n+m) c) (n+m) (xs++d)->w.grownBy w' v.ownBlock->((aM ao (n+m) c).ownBlock=v.ownBlock\/(aM ao (n+m) c).ownBlock=aD w.heap.size)->K (a.put o.dst (aA ao (n+m) c)) w'):o.wp P a w K Q:=by
 obtain⟨C,ao,c,rfl,_,l⟩:=L;by_cases D:m=0
 ·subst D;have R:d=[]:=by simpa using C
  subst R;have S:=L5 (P:=P) (w:=w) base t o.type e i size q r v n xs k ao c;unfold Oper.wp execOp;simp only[p,resolve,invoke,builtin,Sem.run_bind,Sem.run_pure,Result.andThen_ok,List.map_toArray,be,List.map_nil,A,B,S];obtain⟨T,E,rfl,_⟩:=Ak k;exact h T E w (by rw[bw];exact k) (bx _ _) (.inl rfl)
 ·rcases l with U | ⟨b,off,rfl,l⟩
  ·exact absurd U D
  ·refine wp_append_lies w s x t p base e i z size bytes q r F G H I J v n xs A k ⟨b,off,aE⟩ m c d B C (fun j y V=>by rw[Ge];exact l j y V) h1 (by omega) M N O w.heap.size rfl ?_;intro g E w' W X f _;refine h _ _ w' W X ?_;rcases f with f | f
   ·exact .inl (by rw[f];rfl)
   ·exact .inr (by rw[f];rfl)
theorem A8{rest:List Oper}(d:o.guard=aE)(s x:Operand)(t:TypeId)
  (f:o.op=.call { callee:=.builtin .append,args:=#[s,x],argTypes:=#[t,t] })
  (base:Nat) (e:TypeId) (i:TypeInfo) (z:Value) (size bytes:Nat) (g:P.underlying t=aD (.slice e)) (j:P.info? e=aD i) (k:i.zero=aD z)
  (l:i.size=size) (p:i.bytes=bytes) (q:z.cells.size=size) (r:0<size)
  (v:Value) (n:Nat) (xs:List Value) (A:a.eval s=v) (B:w.ownsRow base e size v n xs)
  (u:Value) (m:Nat) (c:List Value) (C:a.eval x=u) (D:Ap w u m size c) (h1:∀y∈c,y.oneCell'=true)
  (E:n+m<=maxLen) (F:(n+m)*bytes<=140737488355328) (G:base<=w.heap.size)
  (h:∀ao b w',w'.ownsRow base e size (aA ao (n+m) b) (n+m) (xs++c)->w.grownBy w' v.ownBlock->((aM ao (n+m) b).ownBlock=v.ownBlock\/(aM ao (n+m) b).ownBlock=aD w.heap.size)->wpList P ops Q rest (a.put o.dst (aA ao (n+m) b)) w'):wpList P ops Q (o::rest) a w :=
 wpList_plain d fun _ H=>Gg s x t f base e i z size bytes g j k l p q r v n xs A B u m c C D h1 E F G fun ao b w' I J K=>H _ _ (h ao b w' I J K)
theorem AC{E:Prop}(d:o.guard=aE)(s x:Operand)(t:TypeId)
  (f:o.op=.call { callee:=.builtin .append,args:=#[s,x],argTypes:=#[t,t] })
  (base:Nat) (e:TypeId) (i:TypeInfo) (z:Value) (size bytes:Nat) (g:P.underlying t=aD (.slice e)) (j:P.info? e=aD i) (k:i.zero=aD z)
  (l:i.size=size) (p:i.bytes=bytes) (q:z.cells.size=size) (r:0<size)
  (v:Value) (n:Nat) (xs:List Value) (A:a.eval s=v) (B:w.ownsRow base e size v n xs)
  (u:Value) (m:Nat) (b:List Value) (C:a.eval x=u) (D:Ap w u m size b) (h1:∀y∈b,y.oneCell'=true)
  (F:n+m<=maxLen) (G:(n+m)*bytes<=140737488355328) (H:base<=w.heap.size)
  (h:∀ao c w',w'.ownsRow base e size (aA ao (n+m) c) (n+m) (xs++b)->w.grownBy w' v.ownBlock->((aM ao (n+m) c).ownBlock=v.ownBlock\/(aM ao (n+m) c).ownBlock=aD w.heap.size)->K (a.put o.dst (aA ao (n+m) c)) w') :
  if aZ o (yielded ops a.tmps)=true then Oper.wp P o a w K Q else E:=by
 have I:aZ o (yielded ops a.tmps)=true:=by simp[aZ,d]
 rw[if_pos I];exact Gg s x t f base e i z size bytes g j k l p q r v n xs A B u m b C D h1 F G H h
theorem Az.grow{L:List MRow}{r:MRow}(h:Az B w (r::L))(f:r'.isAt B w')(i:w.grownBy w' r.v.ownBlock)(a:r'.v.ownBlock=r.v.ownBlock\/r'.v.ownBlock=aD w.heap.size):Az B w' (r'::L):=by
 have c:=aS.1 h.2;refine⟨fun s b=>?_,aS.2 ⟨fun s b=>?_,c.2⟩⟩
 ·rcases bd.1 b with rfl | h1
  ·exact f
  ·refine aY (h.1 s (by simp[h1])) i ?_;rcases c.1 s h1 with d | d
   ·cases j:s.v.ownBlock with
    | none=>exact Or.inl rfl
    | some g=>right;rw[d];simp
   ·exact Or.inr (fun e=>d e.symm)
 ·rcases a with a | a
  ·rw[a];exact c.1 s b
  ·rw[a];refine .inr fun e=>?_
   have:=(h.lt (aQ _ b) e.symm).2;omega
theorem Tc(ws:List (List UInt8)):∀u∈strs ws,u.oneCell'=true:=by
 intro u a;simp only[strs,List.mem_map]at a;obtain⟨x,_,rfl⟩:=a;rfl
theorem Cy(h:∀x∈ls,∃a n c,x.v=aA a n c):∀u∈ls.flatMap LAt.cells,u.oneCell'=true:=by
 intro u b;obtain⟨x,d,b⟩:=aW.1 b;obtain⟨a,n,c,e⟩:=h x d;simp only[LAt.cells,bd,bt,or_false]at b;rcases b with rfl | rfl
 ·rfl
 ·rw[e];rfl
theorem Fu(h:∀x∈bs,∃a n c,x.v=aA a n c):∀u∈bs.flatMap BAt.cells,u.oneCell'=true:=by
 intro u b;obtain⟨x,d,b⟩:=aW.1 b;obtain⟨a,n,c,e⟩:=h x d;simp only[BAt.cells,bd,bt,or_false]at b;rcases b with rfl | rfl | rfl
 ·rfl
 ·rfl
 ·rw[e];rfl
variable {ws:List (List UInt8)}{w2 w3 W:World}{vk v3 u1 u2:Value}
theorem LH{size:Nat}(a:n=0)(b:xs.length=n*size):w.ownsRow B e size (aA aE n 0) n xs:=by
 subst a;have:xs=[]:=by simpa using b
 subst this;exact aT _ _ _ _
theorem Qe(h:Ap w v ws.length 1 (strs ws))(C:ws.length<=1048576):Calls prog 157 #[v] w fun e w'=>∃ao g,e=aP (aA ao ws.length g)/\w'.ownsRow w.heap.size 9 1 (aA ao ws.length g) ws.length (strs ws)/\Below w.heap.size w w':=by
 obtain⟨ao,g,rfl⟩:=h.ae;have m:=Tc ws;have D:(strs ws).length=ws.length:=CO ws;generalize strs ws=xs at *;generalize ws.length=n at *;obtain⟨i0,o,p,q,r⟩:=info_parts OR;have E:∀(w:World) (a:Option Addr) (n c n' d:Nat),(binOp .eql 52 (aA a n c) (aA aE n' d)).run prog w=.ok (.bool a.isNone) w:=fun w a n c n' d=>Lib.run_eql_slice_nil w _ _ a n c n' d underlying52
 cases ao with
 | none =>
  have f:n=0:=by
   obtain⟨_,j,d,s,_,t⟩:=h;cases s
   rcases t with f | ⟨b,off,e,_⟩
   ·exact f
   ·cases e
  have u:w.ownsRow w.heap.size 9 1 (aA aE n 0) n xs:=LH f (by omega);clear h;subst f;go_enter func157,ntmps157;go_wp2;go_ret;exact⟨aE,0,rfl,u,aJ _ _⟩
 | some a =>
  have b0:=(aJ w.heap.size w).alloc (aF _) (aG #[] 9);have h1:=h.V b0;have i:=aN (base:=w.heap.size) (e:=9) (size:=1) w #[] 0 (aF _) (by decide) rfl;clear h;go_enter func157,ntmps157;go_wp2_with (at_builtin;refine A8 (by rfl) _ _ 52 (by rfl) w.heap.size 9 i0 (aB ⟨#[]⟩) 1 16 underlying52 o p q r rfl (by decide) _ 0 [] (by rfl) i _ n xs (by rfl) h1 m ?c3 ?c4 (by simp) ?_)
  case c3=>unfold maxLen;omega
  case c4=>omega
  intro j x w1 y l z;have A:=b0.grown l (by simp) (fun k B=>(i.lt k B).1);clear h1 i z l;go_wp2;go_ret;exact⟨j,x,rfl,y,A⟩
theorem Az.own1{r:MRow}(h:r.isAt B w):Az B w [r]:=⟨fun s a=>by rw[bl.1 a];exact h,by simp⟩
theorem IV{wc:World}{done:List LAt}{x:LAt}{T:TypeId}(e:A5 B wc vk done)(b:B<=wc.heap.size)(o2:w2.ownsRow wc.heap.size 9 1 x.v x.ws.length (strs x.ws))(a:Below wc.heap.size wc w2)
  (f:w3.ownsRow B 115 2 v3 (done.length+1) (done.flatMap LAt.cells++[aB x.key,x.v])) (c:(w2.alloc (aG cs T)).grownBy w3 vk.ownBlock) (g:v3.ownBlock=vk.ownBlock\/v3.ownBlock=aD (w2.alloc (aG cs T)).heap.size) :
  A5 B w3 v3 (done++[x])/\Below B wc w3:=by
 have h:Az B w2 ([x.row]++CE vk done):=Az.join e (Az.own1 o2) a b;have d:Az B w2 (⟨vk,115,2,done.length,done.flatMap LAt.cells⟩::(done.map LAt.row++[x.row])):=h.perm (by
  unfold CE;exact bi)
 have ba:=(aJ w2.heap.size w2).alloc (aF _) (aG cs T);have i:=d.V ba;have j:=i.grow (r':=⟨v3,115,2,done.length+1,done.flatMap LAt.cells++[aB x.key,x.v]⟩) f c g;refine⟨?_,?_⟩
 ·unfold A5 CE;rw[aI,aC,bo];exact j
 ·have m:=a.size;exact((a.mono b).trans (ba.mono (by omega))).grown c (by simp;omega) (fun k l=>(Az.lt d (bn ..) l).1)
theorem Hp{wc:World}{done:List BAt}{x:BAt}{T:TypeId}(e:Aq B wc vk done)(b:B<=wc.heap.size)(o2:A5 wc.heap.size w2 x.v x.ls)(a:Below wc.heap.size wc w2)
  (f:w3.ownsRow B 46 3 v3 (done.length+1) (done.flatMap BAt.cells++[aB x.aa,aB x.name,x.v])) (c:(w2.alloc (aG cs T)).grownBy w3 vk.ownBlock) (g:v3.ownBlock=vk.ownBlock\/v3.ownBlock=aD (w2.alloc (aG cs T)).heap.size) :
  Aq B w3 v3 (done++[x])/\Below B wc w3:=by
 have h:Az B w2 (x.ah++Dr vk done):=Az.join e o2 a b;have d:Az B w2 (⟨vk,46,3,done.length,done.flatMap BAt.cells⟩::(done.flatMap BAt.ah++x.ah)):=h.perm (by
  unfold Dr;exact bi)
 have ba:=(aJ w2.heap.size w2).alloc (aF _) (aG cs T);have i:=d.V ba;have j:=i.grow (r':=⟨v3,46,3,done.length+1,done.flatMap BAt.cells++[aB x.aa,aB x.name,x.v]⟩) f c g;refine⟨?_,?_⟩
 ·unfold Aq Dr;rw[aC,aC,bo,bg,bg];exact j
 ·have m:=a.size;exact((a.mono b).trans (ba.mono (by omega))).grown c (by simp;omega) (fun k l=>(Az.lt d (bn ..) l).1)
theorem Nl{o1 o2:Nat}(a:Below B w W)(c:w.cell? ⟨g,o1,aE⟩=aD u1)(c2:w.cell? ⟨g,o2,aE⟩=aD u2)(b:g<B:=by first | assumption | (simp;done) | omega):W.cell? ⟨g,o1,aE⟩=aD u1/\W.cell? ⟨g,o2,aE⟩=aD u2 :=
 ⟨(a.cell (p:=⟨g,o1,aE⟩) b).trans c,(a.cell (p:=⟨g,o2,aE⟩) b).trans c2⟩
theorem Bz(w:World)(cs:Array Value)(T:TypeId)(size:Nat)(a:cs.size=size):Ap (w.alloc (aG cs T)) (aA (aD ⟨w.heap.size,0,aE⟩) 1 1) 1 size cs.toList:=AG (aN (base:=w.heap.size) (e:=T) (size:=size) w cs 1 (aF _) (by decide) (by omega))
theorem CB(h:An w v ls)(p:Ah ls):Calls prog 94 #[v] w fun e w'=>∃v' ls',e=aP v'/\ls'.map LAt.I=ls.map LAt.I/\A5 w.heap.size w' v' ls'/\Below w.heap.size w w':=by
 obtain⟨ao,a1,rfl⟩:=h.1.ae;have O:=p.1;generalize P:ls.length=d at *;have E:=Aa P;clear P;obtain⟨i0,al,am,an,ap⟩:=info_parts CK;go_enter func94,ntmps94;go_wp2;go_loopw [3,8] (fun q i wr=>∃(j:Nat) (done:List LAt),j<=d/\i=.int .i64 (j:Int)/\done.map LAt.I=(ls.take j).map LAt.I/\A5 w.heap.size wr q done/\Below w.heap.size w wr) (fun _ i _=>d-(intOf i).toNat)
 case atStart=>exact⟨0,[],by omega,rfl,by simp,Az.own1 (aT _ _ _ _),aJ _ _⟩
 case round =>
  obtain⟨j,done,a2,rfl,f,k,l⟩:=hrel;obtain⟨F,G,rfl,_⟩:=Ak k.row;have aq:done.length=j:=by have:=congrArg bz f;simp at this;have:=E.out;omega
  subst aq;by_cases a3:done.length<d
  ·obtain⟨D,x,T,r,H⟩:=AS ls done.length (by have:=E.out;omega);have s:=h.V l;have t:x∈ls:=by rw[r];simp
   have I:=s;rw[r]at I;obtain⟨g,off,rfl,ar,c2⟩:=I.1.line;obtain⟨a,b,Q⟩:=Ap.ae (s.2 x t);have R:=Aa (show ∀v',(done++[⟨x.key,v',x.ws⟩]:List LAt).map LAt.I=(ls.take (done.length+1)).map LAt.I from by
    intro v';rw[aI,f,r,<-H,Bk,BG,aI];rfl)
   have u:=s.2 x t;unfold BL at u;rw[Q]at u c2;rw[H]at ar c2;have au:=(aJ wr.heap.size wr).alloc (aF _) (aG #[aB x.key,aA a x.ws.length b] 115);have k0:=A3 (w:=wr) (cs:=#[aB x.key,aA a x.ws.length b]) (T:=115) 0;have J:=A3 (w:=wr) (cs:=#[aB x.key,aA a x.ws.length b]) (T:=115) 1;simp only[bj,bf,List.getElem?_cons_succ]at k0 J;have z:=au.drew;have S:=Qe (u.V z) (p.2 x t).1;have K:A5 w.heap.size (wr.alloc (aG #[aB x.key,aA a x.ws.length b] 115)).drew (aA F done.length G) done:=k.V z;have U:=l.size;have V:w.heap.size<=(wr.alloc (aG #[aB x.key,aA a x.ws.length b] 115)).drew.heap.size:=aO U z.size;have X:=l.trans (z.mono U);have Y:=Aa (show ∀w2,Below (wr.alloc (aG #[aB x.key,aA a x.ws.length b] 115)).drew.heap.size (wr.alloc (aG #[aB x.key,aA a x.ws.length b] 115)).drew w2->∀cs,(w2.alloc (aG cs 115)).ownsRow w.heap.size 115 2 (aA F done.length G) done.length (done.flatMap LAt.cells) from fun w2 av cs=>(AL K.row av).alloc _);have Z:=Aa K;have L:=Aa (show ∀(A w3:World),A.grownBy w3 (aM F done.length G).ownBlock->wr.heap.size<A.heap.size->∀o,w3.cell? ⟨wr.heap.size,o,aE⟩=A.cell? ⟨wr.heap.size,o,aE⟩ from fun A w3 aw O o=>aw.cell_far _ O (fun e=>by have:=(k.row.lt _ e.symm).2;simp at this));have a4:done.length+1<=1048577:=by omega
   have a5:(0:Int)<=(done.length:Int):=by omega
   have a6:(done.length:Int)<(d:Int):=by omega
   have M:(wr.alloc (aG #[aB x.key,aA a x.ws.length b] 115)).drew.cell? ⟨wr.heap.size,0,aE⟩=aD (aB x.key):=k0;have N:(wr.alloc (aG #[aB x.key,aA a x.ws.length b] 115)).drew.cell? ⟨wr.heap.size,1,aE⟩=aD (aA a x.ws.length b):=J;obtain⟨xk,xv,B⟩:=x;simp only at *;clear h s I p f k K u r Q H t k0 J;go_wp2;have a7:(wr.alloc (aG #[aB xk,aA a B.length b] 115)).drew.heap.size=wr.heap.size+1:=by simp
   generalize aa:strs B=a8 at *;generalize ab:B.length=nw at *;have ax:=Aa aa;have ay:=Aa ab;clear aa ab
   go_region_held3 (fun W=>W.cell? ⟨wr.heap.size,0,aE⟩=aD (aB xk)/\W.cell? ⟨wr.heap.size,1,aE⟩=aD (aA a nw b))
    (first | exact⟨M,N⟩ | exact ac | exact C | exact ad)
    (first
      | (go_at_call 157
         refine S.mono ?_;rintro e w2 ⟨m,n,rfl,o2,c⟩;have ac:=Nl c M N;have az:=X.trans (c.mono V);have C:=Nl (c.alloc c.size (aG #[aB xk,aA m nw n] 115)) M N)
      | (refine AC (by rfl) _ _ 44 (by rfl) w.heap.size 115 i0 _ 2 40 underlying44 al am an ap rfl (by decide) _ done.length _ (by rfl) (Y.out w2 c _) _ 1 _ (by rfl) (Bz w2 #[aB xk,aA m nw n] 115 2 rfl) (by intro y ae;simp at ae;rcases ae with rfl | rfl <;> rfl) (by unfold maxLen;omega) (by omega) (aO az.size (by simp)) ?_
         intro a9 ba w3 o3 g3 v3;have af:=IV (x:=⟨xk,aA m nw n,B⟩) Z.out V (by simp only[ay.out,ax.out];exact o2) c o3 g3 v3;have ag:wr.heap.size<(w2.alloc (aG #[aB xk,aA m nw n] 115)).heap.size:=by have:=c.size;simp;omega
         have ad:=And.intro ((L.out _ _ g3 ag 0).trans C.1) ((L.out _ _ g3 ag 1).trans C.2)))
   have a0:=Aa (R.out (aA m nw n));clear R Y Z L ac C ad o2 o3 g3 v3 S;go_wp2;go_roundw;case rel=>exact⟨done.length+1,_,by omega,by go_num,a0.out,af.1,X.trans af.2⟩
   case measure=>simp[intOf];omega
  ·have ah:done.length=d:=by omega
   have ai:ls.take done.length=ls:=by rw[ah,<-E.out,bq]
   rw[ai]at f;have aj:=Aa k;have ak:=Aa f;have bb:¬((done.length:Int)<(d:Int)):=by omega
   clear h p k f ai ah;go_wp2;go_ret;first | exact⟨_,done,rfl,ak.out,aj.out,l⟩ | exact⟨_,rfl,done,ak.out,aj.out,l⟩
variable {q:Nat}
def Cc(q:Nat)(v:Value)(n:Nat):Prop:=n=0\/∀b off m c,v=aA (aD ⟨b,off,aE⟩) m c->b≠q
theorem Ap.far{size:Nat}(h:Ap w v n size xs)(c:Cc q v n)(l:w.grownBy w' (aD q)):Ap w' v n size xs:=by
 obtain⟨m,ao,f,g,o,a⟩:=h;refine⟨m,ao,f,g,o,?_⟩;rcases a with d | ⟨b,off,i,a⟩
 ·exact .inl d
 ·rcases c with d | c
  ·exact .inl d
  ·have p:=c b off n f (by rw[g,i]);exact .inr ⟨b,off,i,fun j u k=>(l.cell_far ⟨b,off+j,aE⟩ (aL w _ (a j u k)) (by intro e;cases e;exact p rfl)).trans (a j u k)⟩
theorem Cc.of_own{size:Nat}(h:w.ownsRow base e size v n xs)(a:v.ownBlock≠aD q):Cc q v n:=by
 rcases h.2 with ⟨rfl,d⟩ | ⟨g,f,i,rfl,_⟩
 ·exact .inl d
 ·refine .inr fun b off m c e=>?_
  cases e
  exact fun e=>a (by rw[<-e];rfl)
theorem Cc.of_lt{size:Nat}(h:Ap w v n size xs)(f:0<size)(j:w.heap.size<=q):Cc q v n:=by
 obtain⟨g,ao,k,rfl,l,a⟩:=h;rcases a with d | ⟨b,off,rfl,a⟩
 ·exact .inl d
 ·by_cases d:n=0
  ·exact .inl d
  ·refine .inr fun b' o m c e=>?_
   cases e
   have i:0<xs.length:=by rw[g];exact Nat.mul_pos (by omega) f
   have:b<w.heap.size:=aL w _ (a 0 xs[0] (aK i));omega
def Ay(q:Nat)(v:Value)(ls:List LAt):Prop:=Cc q v ls.length/\∀y∈ls,Cc q y.v y.ws.length
theorem An.far(h:An w v ls)(a:Ay q v ls)(b:w.grownBy w' (aD q)):An w' v ls:=⟨h.1.far a.1 b,fun x c=>(h.2 x c).far (a.2 x c) b⟩
theorem Cc.above{size:Nat}(h:w.ownsRow B e size v n xs)(a:q<B):Cc q v n:=Cc.of_own h (fun e=>by have:=(h.lt q e).1;omega)
theorem Vd:(bp.info? 93).map (fun i=>(i.zero,i.size,i.bytes))=aD (aD (.agg #[.int .i64 0,aB ⟨#[]⟩,aB ⟨#[]⟩,aB ⟨#[]⟩,aA aE 0 0]),5,80):=by kernel_rfl
structure Bl where
 ak:Int
 aa:ByteArray
 name:ByteArray
 key:ByteArray
 v:Value
 ls:List LAt
def Bl.I(c:Bl):PChange:=⟨c.ak,c.aa,c.name,c.key,c.ls.map LAt.I⟩
def Bl.cells(c:Bl):List Value:=[.int .i64 c.ak,aB c.aa,aB c.name,aB c.key,c.v]
theorem Bl.len(c:Bl):c.cells.length=5:=rfl
def DR(w:World)(v:Value)(cs:List Bl):Prop:=Ap w v cs.length 5 (cs.flatMap Bl.cells)/\∀c∈cs,An w c.v c.ls
theorem DR.V{cs:List Bl}(h:DR w v cs)(a:Below w.heap.size w w'):DR w' v cs:=⟨h.1.V a,fun c b=>(h.2 c b).V a⟩
def Bl.ah(c:Bl):List MRow:=CE c.v c.ls
def Pq(v:Value)(cs:List Bl):List MRow:=⟨v,93,5,cs.length,cs.flatMap Bl.cells⟩::cs.flatMap Bl.ah
def CU(B:Nat)(w:World)(v:Value)(cs:List Bl):Prop:=Az B w (Pq v cs)
theorem CU.row{cs:List Bl}(h:CU B w v cs):w.ownsRow B 93 5 v cs.length (cs.flatMap Bl.cells):=Az.head h
theorem CU.ac{cs:List Bl}(h:CU B w v cs)(c:Bl)(a:c∈cs):A5 B w c.v c.ls:=by
 obtain⟨A,C,e⟩:=Ft Bl.ah a;have b:Az B w (A++(c.ah++C)):=by rw[<-e];exact Az.tail h
 exact(Az.right b).left
theorem CU.cin{cs:List Bl}(h:CU B w v cs):DR w v cs:=⟨AG h.row,fun c a=>(h.ac c a).lin⟩
theorem GJ(B:Nat)(w:World):CU B w (aA aE 0 0) []:=⟨fun r a=>by rw[bl.1 a];exact aT _ _ 93 5,by simp[Pq]⟩
def Nn(bs:List BAt)(kind name:ByteArray)(e:Ending):Prop:=((bs.map BAt.I).find? (AE kind name)=aE/\e=aP (.int .i64 (-1)))\/∃D b T,bs=D++b::T/\(bs.map BAt.I).find? (AE kind name)=aD b.I/\e=aP (.int .i64 (D.length:Int))
theorem GL(kind name:ByteArray)(h:As w v bs)(u:bs.length<=1048576):Calls prog 52 #[.agg #[v],aB kind,aB name] w fun e w'=>Nn bs kind name e/\Below w.heap.size w w':=by
 obtain⟨ao,p,rfl⟩:=h.1.ae;have k:=(aJ w.heap.size w).alloc (aF _) (aG #[aA ao bs.length p] 25);have k0:=A3 (w:=w) (cs:=#[aA ao bs.length p]) (T:=25) 0;simp only[bj,bf]at k0;have h1:=h.V k;clear h;generalize q:bs.length=n at *;have l:=Aa q;clear q;go_enter func52,ntmps52;go_wp2;go_loop [7] (fun i=>∃j:Nat,j<=n/\i=.int .i64 (j:Int)/\De (bs.map BAt.I) kind name j) (fun i=>n-(intOf i).toNat)
 case atStart=>exact⟨0,by omega,rfl,De.zero _ _ _⟩
 case round =>
  obtain⟨j,y,rfl,f⟩:=hrel;by_cases z:j<n
  ·obtain⟨D,x,T,rfl,c⟩:=AS bs j (by have:=l.out;omega);obtain⟨g,off,rfl,t,c2,c3⟩:=h1.1.block;have m:De (D.map BAt.I++x.I::T.map BAt.I) kind name (D.map BAt.I).length:=by rw[aX,c];simpa using f
   have d:=Aa (show AE kind name x.I=true->Nn (D++x::T) kind name (aP (.int .i64 (j:Int))) from fun o=>.inr ⟨D,x,T,rfl,by simpa using m.hit o,by rw[c]⟩);have b:=Aa (show AE kind name x.I=false->De ((D++x::T).map BAt.I) kind name (j+1) from fun o=>by have:=m.succ o;rw[aX,c]at this;simpa using this);rw[c]at t c2 c3;have r:AE kind name x.I=((x.aa.toList==kind.toList)&&(x.name.toList==name.toList)):=rfl;rw[r]at d b;have A:(0:Int)<=(j:Int):=by omega
   have B:(j:Int)<(n:Int):=by omega
   clear h1 f m r c l;generalize x.aa=xk at *;generalize x.name=xn at *;cases h1:(xk.toList==kind.toList)
   ·have a:=Aa (b.out (by rw[h1];rfl));clear d b;go_wp2;go_round
    case rel=>exact⟨j+1,by omega,by go_num,a.out⟩
    case measure=>simp[intOf];omega
   ·cases s:(xn.toList==name.toList)
    ·have a:=Aa (b.out (by rw[h1,s];rfl));clear d b;go_wp2;go_round
     case rel=>exact⟨j+1,by omega,by go_num,a.out⟩
     case measure=>simp[intOf];omega
    ·have a:=Aa (d.out (by rw[h1,s];rfl));clear d b;go_wp2;go_ret;exact⟨a.out,k⟩
  ·obtain rfl:j=n:=by omega
   have a:=Aa (show Nn bs kind name (aP (.int .i64 (-1))) from .inl ⟨De.none (by rw[aX,l.out];exact f),rfl⟩);clear h1 f;go_wp2;go_ret;exact⟨a.out,k⟩
theorem Gs{o1 o2:Nat}(a:Below w.heap.size w W)(b:w.cell? ⟨g,o1,aE⟩=aD u1)(c2:w.cell? ⟨g,o2,aE⟩=aD u2):W.cell? ⟨g,o1,aE⟩=aD u1/\W.cell? ⟨g,o2,aE⟩=aD u2 :=
 ⟨(a.cell (aL _ _ b)).trans b,(a.cell (aL _ _ c2)).trans c2⟩
theorem KV(h:An w v ls)(n:Ah ls):Calls prog 97 #[v] w fun e w'=>∃v' ls',e=aP v'/\ls'.map LAt.I=ls.map LAt.I/\A5 w.heap.size w' v' ls'/\Below w.heap.size w w':=by
 obtain⟨ao,a4,rfl⟩:=h.1.ae;have a5:=n.1;generalize I:ls.length=b at *;have B:=Aa I;clear I;obtain⟨i0,af,ag,ah,ai⟩:=info_parts CK;obtain⟨aj,ak,al,am,an⟩:=info_parts OR;have b0:=(aJ w.heap.size w).alloc (aF _) (aG #[] 115);have C:=aN (base:=w.heap.size) (e:=115) (size:=2) w #[] 0 (aF _) (by decide) rfl;go_enter func97,ntmps97;go_wp2;go_loopw [3,4] (fun q i wr=>∃(j:Nat) (done:List LAt),j<=b/\i=.int .i64 (j:Int)/\done.map LAt.I=(ls.take j).map LAt.I/\A5 w.heap.size wr q done/\Below w.heap.size w wr) (fun _ i _=>b-(intOf i).toNat)
 case atStart=>exact⟨0,[],by omega,rfl,by simp,Az.own1 C,b0⟩
 case round =>
  obtain⟨j,done,a6,rfl,c,f,o⟩:=hrel;obtain⟨J,K,rfl,_⟩:=Ak f.row;have ap:done.length=j:=by have:=congrArg bz c;simp at this;have:=B.out;omega
  subst ap;by_cases a7:done.length<b
  ·obtain⟨D,x,T,p,E⟩:=AS ls done.length (by have:=B.out;omega);have r:x∈ls:=by rw[p];simp
   have F:=h;rw[p]at F;obtain⟨g,off,rfl,d,a⟩:=F.1.line;obtain⟨aq,ar,L⟩:=Ap.ae (h.2 x r);have M:=Aa (show ∀v',(done++[⟨x.key,v',x.ws⟩]:List LAt).map LAt.I=(ls.take (done.length+1)).map LAt.I from by
    intro v';rw[aI,c,p,<-E,Bk,BG,aI];rfl)
   have s:=h.2 x r;unfold BL at s;rw[L]at s a;rw[E]at d a;have au:=Tc x.ws;have a8:x.ws.length<=1048576:=(n.2 x r).1;have l:=o.size;have t:=o.drew;have N:=t.alloc l (aG #[] 9);have O:=Aa (s.V N);have P:=aN (base:=wr.heap.size) (e:=9) (size:=1) wr.drew #[] 0 (aF _) (by decide) rfl;have Q:=Aa (show ∀w2,(wr.drew.alloc (aG #[] 9)).grownBy w2 (aD wr.heap.size)->Below wr.heap.size wr.drew w2 from fun w2 u=>((aJ wr.heap.size wr.drew).alloc (aF _) _).grown u (by simp) (fun k av=>by cases av;exact aF _));have G:A5 w.heap.size wr.drew (aA J done.length K) done:=f.V ((aJ wr.heap.size wr).drew);have R:=Aa (show ∀w2,Below wr.heap.size wr.drew w2->∀cs,(w2.alloc (aG cs 115)).ownsRow w.heap.size 115 2 (aA J done.length K) done.length (done.flatMap LAt.cells) from fun w2 aw cs=>(AL G.row aw).alloc _);have S:=Aa G;have a9:(0:Int)<=(done.length:Int):=by omega
   have i2:(done.length:Int)<(b:Int):=by omega
   have ax:=Gs t d a;have ay:=Gs N d a;obtain⟨xk,xv,H⟩:=x;simp only at *;generalize U:strs H=az at *;generalize V:H.length=nw at *;have a0:=Aa U;have a1:=Aa V;clear h F n c f G s p L E r U V C b0;go_wp2
   go_region_held3 (fun W=>W.cell? ⟨g,off+done.length*2,aE⟩=aD (aB xk)/\W.cell? ⟨g,off+done.length*2+1,aE⟩=aD (aA aq nw ar))
    (first | exact ax | exact ay | exact Gs X d a | exact Gs a2 d a | exact Gs Y d a)
    (first
      | (refine AC (by rfl) _ _ 52 (by rfl) wr.heap.size 9 aj (aB ⟨#[]⟩) 1 16 underlying52 ak al am an rfl (by decide) _ 0 [] (by rfl) P _ nw az (by rfl) O.out au (by unfold maxLen;omega) (by omega) (by simp) ?_
         intro z A w2 o2 u v2;have m:=Q.out w2 u;have X:=t.trans (m.mono l);have a2:=X.alloc (aO l m.size) (aG #[aB xk,aA z nw A] 115))
      | (refine AC (by rfl) _ _ 44 (by rfl) w.heap.size 115 i0 _ 2 40 underlying44 af ag ah ai rfl (by decide) _ done.length _ (by rfl) (R.out w2 m _) _ 1 _ (by rfl) (Bz w2 #[aB xk,aA z nw A] 115 2 rfl) (by intro y Z;simp at Z;rcases Z with rfl | rfl <;> rfl) (by unfold maxLen;omega) (by omega) (aO l (aO m.size (by simp))) ?_
         intro ba bb w3 o3 g3 v3;have aa:=IV (x:=⟨xk,aA z nw A,H⟩) S.out l (by simp only[a1.out,a0.out];simpa using o2) m o3 g3 v3;have Y:=t.trans aa.2))
   have a3:=Aa (M.out (aA z nw A));clear M R S Q O P o2 o3 u g3 v2 v3;go_wp2;go_roundw;case rel=>exact⟨done.length+1,_,by omega,by go_num,a3.out,aa.1,Y⟩
   case measure=>simp[intOf];omega
  ·have ab:done.length=b:=by omega
   have ac:ls.take done.length=ls:=by rw[ab,<-B.out,bq]
   rw[ac]at c;have ad:=Aa f;have ae:=Aa c;have bc:¬((done.length:Int)<(b:Int)):=by omega
   clear h n f c ac ab C b0;go_wp2;go_ret;first | exact⟨_,done,rfl,ae.out,ad.out,o⟩ | exact⟨_,rfl,done,ae.out,ad.out,o⟩
variable {D T:List BAt}{ls':List LAt}
theorem Az.midTurn{A C:List MRow}{r:MRow}(h:Az B w (A++r::C))(a:r'.v=r.v)(b:r'.isAt B w')(c:w.grownBy w' r.v.ownBlock):Az B w' (A++r'::C) :=
 (Az.turn (h.perm br) a b c).perm br.symm
theorem ZS(f:α->List Value)(k:Nat)(a:∀x,(f x).length=k)(D T:List α)(r r':α)(c:Nat)(u:Value)(d:c<k)(b:f r'=(f r).set c u):((D++r::T).flatMap f).set (D.length*k+c) u=(D++r'::T).flatMap f:=by
 rw[aC,aH,bh _ _ (by rw[Bn f k a];omega),Bn f k a,Nat.add_sub_cancel_left,List.set_append_left _ _ (by rw[a];omega),<-b,aC,aH]
def LM(B:Nat)(w:World)(v:Value)(C:List LAt)(rest:List MRow):Prop:=Az B w (CE v C++rest)
theorem LM.own{C:List LAt}{rest:List MRow}(h:LM B w v C rest):A5 B w v C:=Az.left h
theorem LM.size{cap:Nat}{C:List LAt}{rest:List MRow}(h:LM B w (aA (aD ⟨g,0,aE⟩) n cap) C rest)(a:C.length=n):w.ownsRow B 115 2 (aA (aD ⟨g,0,aE⟩) n cap) n (C.flatMap LAt.cells):=by
 subst a;exact Az.head h
theorem LM.cell{cap:Nat}{D T:List LAt}{r:LAt}{rest:List MRow}(h:LM B w (aA (aD ⟨g,0,aE⟩) n cap) (D++r::T) rest)(c:Nat)(b:c<2):w.cell? ⟨g,D.length*2+c,aE⟩=r.cells[c]?:=by
 have h1:=(Az.head h).cells rfl (D.length*2+c);obtain⟨u,a⟩:∃u,r.cells[c]?=aD u:=⟨_,aK (by simp[LAt.cells];omega)⟩;rw[a];rw[<-LF];exact h1 u (by rw[C8 _ 2 LAt.len D T r c b,a])
theorem LM.words{D T:List LAt}{r:LAt}{rest:List MRow}(h:LM B w v (D++r::T) rest):w.ownsRow B 9 1 r.v r.ws.length (strs r.ws):=h.own.words r (by simp)
theorem LM.set{cap:Nat}{D T:List LAt}{r:LAt}{rest:List MRow}(h:LM B w (aA (aD ⟨g,0,aE⟩) n cap) (D++r::T) rest)(b:(D++r::T).length=n)(c:Nat)(u:Value)(r':LAt)(d:c<2)(f:r'.cells=r.cells.set c u)(i:r'.row=r.row):
  LM B (w.setCell ⟨g,D.length*2+c,aE⟩ u) (aA (aD ⟨g,0,aE⟩) n cap) (D++r'::T) rest:=by
 have a:=(h.size b).stored (D.length*2+c) u;rw[ZS _ 2 LAt.len D T r r' c u d f]at a;unfold LM CE at h⊢;have e:(D++r'::T).map LAt.row=(D++r::T).map LAt.row:=by rw[aI,aI,be,be,i]
 have j:(D++r'::T).length=(D++r::T).length:=by simp
 rw[e,j];subst b;exact Az.turn h rfl a.1 a.2
theorem LM.turn{D T:List LAt}{r:LAt}{rest:List MRow}(h:LM B w v (D++r::T) rest)(a:List (List UInt8))(b:a.length=r.ws.length)(c:w'.ownsRow B 9 1 r.v r.ws.length (strs a))(d:w.grownBy w' r.v.ownBlock):LM B w' v (D++{ r with ws:=a }::T) rest:=by
 have e:∀x:LAt,((D++x::T).map LAt.row++rest)=D.map LAt.row++(x.row::(T.map LAt.row++rest)):=fun x=>by simp
 unfold LM CE at h⊢;have ec:(D++{ r with ws:=a }::T).flatMap LAt.cells=(D++r::T).flatMap LAt.cells:=by rw[aC,aC,aH,aH];rfl
 have f:(D++{ r with ws:=a }::T).length=(D++r::T).length:=by simp
 rw[bu,e]at h;rw[bu,e,ec,f];exact Az.midTurn (A:=_::D.map LAt.row) (r:=r.row) (r':=LAt.row { r with ws:=a }) h rfl (by show w'.ownsRow B 9 1 r.v a.length (strs a);rw[b];exact c) d
def BM(B:Nat)(w:World)(v:Value)(C:List BAt)(rest:List MRow):Prop:=Az B w (Dr v C++rest)
theorem BM.own{C:List BAt}{rest:List MRow}(h:BM B w v C rest):Aq B w v C:=Az.left h
theorem Aq.bm{C:List BAt}(h:Aq B w v C):BM B w v C []:=by unfold BM;rw[bw];exact h
def EM(v:Value)(D:List BAt)(r:BAt)(T:List BAt)(rest:List MRow):List MRow:=(⟨v,46,3,(D++r::T).length,(D++r::T).flatMap BAt.cells⟩::D.flatMap BAt.ah)++(T.flatMap BAt.ah++rest)
theorem La(v:Value)(D:List BAt)(r:BAt)(T:List BAt)(rest:List MRow):(Dr v (D++r::T)++rest).Perm (CE r.v r.ls++EM v D r T rest):=by
 have e:Dr v (D++r::T)++rest=(⟨v,46,3,(D++r::T).length,(D++r::T).flatMap BAt.cells⟩::D.flatMap BAt.ah)++(CE r.v r.ls++(T.flatMap BAt.ah++rest)):=by
  unfold Dr;rw[aC,aH];simp[BAt.ah]
 rw[e];exact List.perm_append_comm_assoc _ _ _
theorem BM.ac{r:BAt}{rest:List MRow}(h:BM B w v (D++r::T) rest):LM B w r.v r.ls (EM v D r T rest):=Az.perm h (La v D r T rest)
theorem BM.back{r:BAt}{rest:List MRow}(h:LM B w r.v ls' (EM v D r T rest)):BM B w v (D++{ r with ls:=ls' }::T) rest:=by
 refine Az.perm h (List.Perm.symm ?_);have e:EM v D r T rest=EM v D { r with ls:=ls' } T rest:=by
  unfold EM;rw[show (D++{ r with ls:=ls' }::T).flatMap BAt.cells=(D++r::T).flatMap BAt.cells by rw[aC,aC,aH,aH];rfl,show (D++{ r with ls:=ls' }::T).length=(D++r::T).length by simp]
 rw[e];exact La v D { r with ls:=ls' } T rest
def Ac8(B:Nat)(w:World)(v:Value)(bs:List BAt):Prop:=w.ownsRow B 46 3 v bs.length (bs.flatMap BAt.cells)/\∀x∈bs,An w x.v x.ls/\∀q,v.ownBlock=aD q->Ay q x.v x.ls
theorem JD{L:List MRow}{r s:MRow}(h:Az B w (r::L))(c:s∈L)(b:r.v.ownBlock=aD q):Cc q s.v s.n:=by
 have a:=(aS.1 h.2).1 s c;refine Cc.of_own (h.1 s (aQ _ c)) (fun e=>?_);rcases a with a | a
 ·rw[a]at b;cases b
 ·exact a (b.trans e.symm)
theorem Aq.brow(h:Aq B w v bs):Ac8 B w v bs:=by
 refine⟨h.row,fun x a=>⟨(h.ac x a).lin,fun q b=>?_⟩⟩;have c:∀s∈BAt.ah x,s∈bs.flatMap BAt.ah:=fun s d=>aW.2 ⟨x,a,d⟩
 refine⟨?_,fun y e=>?_⟩
 ·exact JD (s:=⟨x.v,115,2,x.ls.length,x.ls.flatMap LAt.cells⟩) h (c _ (by unfold BAt.ah CE;simp)) b
 ·exact JD (s:=LAt.row y) h (c _ (by unfold BAt.ah CE;simp;exact .inr ⟨y,e,rfl⟩)) b
theorem Ac8.cell{cap:Nat}{x:BAt}(h:Ac8 B w (aA (aD ⟨g,0,aE⟩) n cap) (D++x::T))(c:Nat)(b:c<3):w.cell? ⟨g,D.length*3+c,aE⟩=x.cells[c]?:=by
 have h1:=h.1.cells rfl (D.length*3+c);obtain⟨u,a⟩:∃u,x.cells[c]?=aD u:=⟨_,aK (by simp[BAt.cells];omega)⟩;rw[a];rw[<-LF];exact h1 u (by rw[C8 _ 3 BAt.len D T x c b,a])
def Two(a b:Nat)(v1 v2:Value)(W:World):Prop:=W.cell? ⟨a,0,aE⟩=aD v1/\W.cell? ⟨b,0,aE⟩=aD v2
variable {ao:Option Addr}{m:Nat}
theorem Ap.change{cap:Nat}{D T:List Bl}{x:Bl}(h:Ap w (aA ao m cap) n 5 ((D++x::T).flatMap Bl.cells)):∃b off,ao=aD ⟨b,off,aE⟩/\w.cell? ⟨b,off+D.length*5,aE⟩=aD (.int .i64 x.ak)/\w.cell? ⟨b,off+D.length*5+1,aE⟩=aD (aB x.aa)/\w.cell? ⟨b,off+D.length*5+2,aE⟩=aD (aB x.name)/\w.cell? ⟨b,off+D.length*5+3,aE⟩=aD (aB x.key)/\w.cell? ⟨b,off+D.length*5+4,aE⟩=aD x.v:=by
 have c:0<n:=by have:=h.1;rw[Bn _ 5 Bl.len]at this;simp at this;omega
 obtain⟨b,off,d,a⟩:=h.at c;refine⟨b,off,d,?_,?_,?_,?_,?_⟩
 ·have:=a (D.length*5+0) (.int .i64 x.ak) (by rw[C8 _ 5 Bl.len _ _ _ 0 (by decide)];rfl);simpa using this
 ·have:=a (D.length*5+1) (aB x.aa) (by rw[C8 _ 5 Bl.len _ _ _ 1 (by decide)];rfl);rw[<-aR]at this;exact this
 ·have:=a (D.length*5+2) (aB x.name) (by rw[C8 _ 5 Bl.len _ _ _ 2 (by decide)];rfl);rw[<-aR]at this;exact this
 ·have:=a (D.length*5+3) (aB x.key) (by rw[C8 _ 5 Bl.len _ _ _ 3 (by decide)];rfl);rw[<-aR]at this;exact this
 ·have:=a (D.length*5+4) x.v (by rw[C8 _ 5 Bl.len _ _ _ 4 (by decide)];rfl);rw[<-aR]at this;exact this
