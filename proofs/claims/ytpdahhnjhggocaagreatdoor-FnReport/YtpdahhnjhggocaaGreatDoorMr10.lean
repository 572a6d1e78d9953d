import Derived.Test.YtpdahhnjhggocaaGreatDoorMr7
import Derived.Deep.MidRow
import Derived.Lib.SliceRun
import Derived.Shelf.SlSortCmp.WholeK
import Derived.Shelf.SlSortCmp.NoneTotal
import Derived.Sort.OwnSorted
import Derived.Shelf.Abstract
open Go.Proofs.Tryz
open Option renaming some->aA,none->aE
open Go.Value renaming slice->aB,string->aC,slice->aQ,agg->cO
open List renaming flatMap_append->aD,flatMap_cons->aJ,getElem?_eq_getElem->aK,map_append->aM,flatMap_singleton->aP,mem_cons->aR,not_mem_nil->aU,length_map->aX,perm_append_comm->aY,getElem?_eq_none->aZ,mem_cons_of_mem->be,pairwise_cons->bj,mem_cons_self->bk,length_append->bl,mem_flatMap->bq,map_cons->bx,getElem?_take_of_lt->bz,length_eq_zero_iff->bB,getElem?_cons_zero->bC,set_append_right->bH,getElem?_toArray->bI,mem_singleton->bN,getElem?_map->bY,ext_getElem?->bZ,take_length->b2,perm_middle->b3,cons_append->b4,append_nil->cg,length->cV
open Go.World renaming block_lt_of_cell?->aF,ownsRow_lit->aT,ownsRow_nil->bn,size_alloc->bo,frozen?->ch
open Go.Obj renaming cells->aG
open Nat renaming le_refl->aH,le_trans->aW,add_assoc->bi
open Array renaming getElem?_toList->aI,getElem?_eq_getElem->aN,getElem?_eq_some_iff->bu,getElem?_modify->bE,length_toList->bK,extract_size->bL
open Go.RowKit.Below renaming refl->aL
open Go.Ending renaming returned->aO
open Go renaming TypeId->aS,maxLen->bF,info_parts->bG,TypeInfo->b8
open Go.World.grownBy renaming refl->aV
open Go.Sort renaming putCells->bf,flatK->bh,size_flatK->br,putRowK->bD,heap_grow_old->bM,mapBlock->cD,putRow->cU,ahead->cW
open Go.Proofs.SlLaysF0 renaming n6->bg
open Go.Builtin renaming append_->bp,firstCells->bJ,lenOf->b6
open Go.World.ownsRow renaming kept->bt
open Go.Region renaming wanted->bv
open Go.Proofs.AnyF renaming slices_SortFunc_none->bw
open Subtype renaming val->bA
open Go.Proofs.Tryz renaming zeroValue313->bO,zeroValue302->bP,zeroValue298->bQ,zeroValue279->bR,zeroValue277->bS,zeroValue271->bT,zeroValue270->bU,zeroValue224->bV,zeroValue215->bW,zeroValue179->bX,prog->b1,zeroValue9->b9,zeroValue5->ca,zeroValue4->cc,zeroValue3->cd,zeroValue0->ce,sizeOf313->ci,sizeOf302->cj,sizeOf298->ck,sizeOf279->cl,sizeOf277->cm,sizeOf271->cn,sizeOf270->co,sizeOf224->cp,sizeOf215->cq,sizeOf179->cr,isAgg313->ct,isAgg302->cu,isAgg298->cv,isAgg279->cw,isAgg277->cx,isAgg271->cy,isAgg270->cz,isAgg224->cA,isAgg215->cB,isAgg179->cC,sizeOf9->cE,sizeOf5->cF,sizeOf4->cG,sizeOf3->cH,sizeOf0->cI,func235->cJ,func234->cK,func201->cL,func200->cM,func146->cN,isAgg9->cP,isAgg5->cQ,isAgg4->cR,isAgg3->cS,isAgg0->cT
open Go.Shelf renaming Ren->b5
open Bool renaming not_eq_true->b7
namespace Go.Proofs.YtpdahhnjhggocaaGreatDoor
open Go.RowKit
set_option maxHeartbeats 16000000
set_option maxRecDepth 100000
variable {w w':World}{base n g B B':Nat}{e:aS}{v:Value}{xs:List Value}{cs:Array Value}{α β:Type}
theorem S0(a:w.grownBy w' aE):Below w.heap.size w w':=by
 obtain⟨b,c,g3,g4,d⟩:=a;exact⟨b,c,g3,g4,fun k e=>d k e (by intro h;cases h)⟩
theorem Gq{size:Nat}(h:w.ownsRow base e size v n xs)(g:Nat)(l:g<base)(cs:Array Value):(w.setRow g cs).ownsRow base e size v n xs:=by
 refine⟨h.1,?_⟩;rcases h.2 with a|⟨b,c,d,f,i,j,k⟩
 ·exact Or.inl a
 ·exact Or.inr ⟨b,c,d,f,i,by rw[setRow_other _ _ _ _ (by omega)];exact j,k⟩
theorem Py{o1 o2 o3:Obj}:(((w.alloc o1).alloc o2).alloc o3).heap.size=w.heap.size+3/\(((w.alloc o1).alloc o2).alloc o3).heap[w.heap.size]?=aA o1/\(((w.alloc o1).alloc o2).alloc o3).heap[w.heap.size+1]?=aA o2/\(((w.alloc o1).alloc o2).alloc o3).heap[w.heap.size+2]?=aA o3:=by
 refine⟨by simp,?_,?_,?_⟩
 ·rw[Cs _ _ _ (by simp;omega),Cs _ _ _ (by simp),Ai]
 ·rw[Cs _ _ _ (by simp)];have:=Ai (w.alloc o1) o2
  rwa [bo]at this
 ·have:=Ai ((w.alloc o1).alloc o2) o3
  rwa [bo,bo]at this
theorem Aa{T:aS}(h:w.heap[g]?=aA (aG cs T (0,0)))(j:Nat):w.cell? ⟨g,j,aE⟩=cs[j]?:=by
 unfold World.cell?;rw[h];rfl
theorem Ac{T:aS}(h:w.heap[g]?=aA (aG cs T (0,0)))(j:Nat):w.frozen? ⟨g,j,aE⟩=false:=by
 unfold ch;rw[h];simp
theorem DW{cap size:Nat}(a:List Value):∀(o:Nat) (w:World) (xs:List Value),w.ownsRow base e size (aB (aA ⟨g,0,aE⟩) n cap) n xs->∃ys,(w.setCells g o a).ownsRow base e size (aB (aA ⟨g,0,aE⟩) n cap) n ys/\w.grownBy (w.setCells g o a) (aA g)/\∀A B C,xs=A++B++C->A.length=o->B.length=a.length->ys=A++a++C:=by
 induction a with
 | nil =>
  intro o w xs h;refine⟨xs,h,⟨rfl,rfl,rfl,aH _,fun _ _ _=>rfl⟩,fun A B C d f c=>?_⟩;rw[d,bB.1 c]
 | cons v a j =>
  intro o w xs h;have i:=h.stored o v;obtain⟨ys,h1,k,l⟩:=j (o+1) _ _ i.1;refine⟨ys,h1,Ah i.2 k,fun A B C d f c=>?_⟩
  match B,c with
  | b::B,c =>
   have:=l (A++[v]) B C (by rw[d];rw[List.append_assoc,bH _ _ (by omega),f,Nat.sub_self];simp) (by simp;omega) (by simpa using c);rw[this];simp
theorem EO{cap size:Nat}(h:w.ownsRow base e size (aB (aA ⟨g,0,aE⟩) n cap) n xs)(o k:Nat)(a:o+k<=n*size):w.there g o k:=by
 intro j b;refine⟨?_,h.frozenAt (o+j)⟩;rw[h.cellAt (o+j) (by omega),aK (by have:=h.1;omega)];rfl
def LAt.row(x:LAt):MRow:=⟨x.v,9,1,x.ws.length,strs x.ws⟩
def EF(v:Value)(ls:List LAt):List MRow:=⟨v,115,2,ls.length,ls.flatMap LAt.cells⟩::ls.map LAt.row
def A4(B:Nat)(w:World)(v:Value)(ls:List LAt):Prop:=Ay B w (EF v ls)
theorem A4.row{ls:List LAt}(h:A4 B w v ls):w.ownsRow B 115 2 v ls.length (ls.flatMap LAt.cells):=Ay.head h
theorem A4.words{ls:List LAt}(h:A4 B w v ls)(x:LAt)(a:x∈ls):w.ownsRow B 9 1 x.v x.ws.length (strs x.ws):=h.1 x.row (be _ (List.mem_map_of_mem a))
theorem A4.lin{ls:List LAt}(h:A4 B w v ls):Ap w v ls:=⟨AF h.row,fun x a=>AF (h.words x a)⟩
theorem A4.V{ls:List LAt}(h:A4 B w v ls)(a:Below w.heap.size w w'):A4 B w' v ls:=Ay.V h a
theorem A4.mono{ls:List LAt}(h:A4 B w v ls)(a:B'<=B):A4 B' w v ls:=Ay.mono h a
theorem H0{size:Nat}(h:w.ownsRow base e size v n xs)(a:w.grownBy w' (aA g))(c:g<base):w'.ownsRow base e size v n xs:=by
 refine bt h a ?_;cases b:v.ownBlock with
 | none=>exact Or.inl rfl
 | some q =>
  right;have:=(h.lt q b).1;intro e;cases e
  omega
theorem Ay.other{L:List MRow}(h:Ay B w L)(a:w.grownBy w' (aA g))(b:g<B):Ay B w' L:=⟨fun r c=>H0 (h.1 r c) a b,h.2⟩
theorem Ay.setCell{L:List MRow}(h:Ay B w L)(p:Addr)(a:p.block<B)(u:Value):Ay B (w.setCell p u) L:=⟨fun r b=>Bo (h.1 r b) p a u,h.2⟩
theorem Ay.setRow{L:List MRow}(h:Ay B w L)(g:Nat)(a:g<B)(cs:Array Value):Ay B (w.setRow g cs) L:=⟨fun r b=>Gq (h.1 r b) g a cs,h.2⟩
theorem CQ:(b1.info? 115).map (fun i=>(i.zero,i.size,i.bytes))=aA (aA (cO #[aC ⟨#[]⟩,aB aE 0 0]),2,40):=by kernel_rfl
theorem A4.setCell{ls:List LAt}(h:A4 B w v ls)(p:Addr)(a:p.block<B)(u:Value):A4 B (w.setCell p u) v ls:=Ay.setCell h p a u
theorem A4.setRow{ls:List LAt}(h:A4 B w v ls)(g:Nat)(a:g<B)(cs:Array Value):A4 B (w.setRow g cs) v ls:=Ay.setRow h g a cs
def BAt.rows(b:BAt):List MRow:=EF b.v b.ls
def K9(v:Value)(bs:List BAt):List MRow:=⟨v,46,3,bs.length,bs.flatMap BAt.cells⟩::bs.flatMap BAt.rows
def Ax(B:Nat)(w:World)(v:Value)(bs:List BAt):Prop:=Ay B w (K9 v bs)
theorem Ax.row{bs:List BAt}(h:Ax B w v bs):w.ownsRow B 46 3 v bs.length (bs.flatMap BAt.cells):=Ay.head h
theorem Gs(f:α->List β){L:List α}{x:α}(a:x∈L):∃A C,L.flatMap f=A++(f x++C):=by
 obtain⟨A,C,rfl⟩:=List.append_of_mem a;exact⟨A.flatMap f,C.flatMap f,by simp⟩
theorem Ax.ac{bs:List BAt}(h:Ax B w v bs)(x:BAt)(a:x∈bs):A4 B w x.v x.ls:=by
 obtain⟨A,C,e⟩:=Gs BAt.rows a;have h1:=Ay.tail h;rw[e]at h1;exact h1.right.left
theorem Ax.bin{bs:List BAt}(h:Ax B w v bs):Au w v bs:=⟨AF h.row,fun x a=>(h.ac x a).lin⟩
theorem Ax.V{bs:List BAt}(h:Ax B w v bs)(a:Below w.heap.size w w'):Ax B w' v bs:=Ay.V h a
theorem Ax.mono{bs:List BAt}(h:Ax B w v bs)(a:B'<=B):Ax B' w v bs:=Ay.mono h a
theorem Cj:(b1.info? 46).map (fun i=>(i.zero,i.size,i.bytes))=aA (aA (cO #[aC ⟨#[]⟩,aC ⟨#[]⟩,aB aE 0 0]),3,56):=by kernel_rfl
theorem Ax.setCell{bs:List BAt}(h:Ax B w v bs)(p:Addr)(a:p.block<B)(u:Value):Ax B (w.setCell p u) v bs:=Ay.setCell h p a u
theorem Ax.setRow{bs:List BAt}(h:Ax B w v bs)(g:Nat)(a:g<B)(cs:Array Value):Ax B (w.setRow g cs) v bs:=Ay.setRow h g a cs
variable {P:Program}{o:Oper}{a:Act}{K:Act -> World -> Prop}{Q:Exit -> Act -> World -> Prop}{ops:Array Oper}{r':MRow}{ls:List LAt}{bs:List BAt}
theorem YQ(b off j:Nat):(⟨b,off,aE⟩:Addr).add j=⟨b,off+j,aE⟩:=by unfold Addr.add;split <;> simp_all
theorem Ld(base:Nat)(t d e:aS)(i:b8)(size:Nat)(a:P.underlying t=aA (.slice e))(b:P.info? e=aA i)(v:Value)(n:Nat)(xs:List Value)(f:w.ownsRow base e size v n xs)(ao:Option Addr)(c:Nat):
  (bp #[t,t] d #[v,aB ao 0 c]).run P w=.ok v w:=by
 rcases f.2 with ⟨rfl,rfl⟩|⟨g,j,k,rfl,_,_,h,_⟩
 ·cases ao <;> simp[bp,run_underlying a,sizeOf,typeInfo,b,b6,bJ,loadCells,loadCellsFrom]
 ·cases ao <;> simp[bp,run_underlying a,sizeOf,typeInfo,b,b6,bJ,h,storeCells,loadCells,loadCellsFrom]
theorem En(s x:Operand)(t:aS)
  (p:o.op=.call { callee:=.builtin .append,args:=#[s,x],argTypes:=#[t,t] })
  (base:Nat) (e:aS) (i:b8) (z:Value) (size bytes:Nat) (q:P.underlying t=aA (.slice e)) (r:P.info? e=aA i) (F:i.zero=aA z)
  (G:i.size=size) (H:i.bytes=bytes) (I:z.cells.size=size) (J:0<size)
  (v:Value) (n:Nat) (xs:List Value) (A:a.eval s=v) (k:w.ownsRow base e size v n xs)
  (u:Value) (m:Nat) (d:List Value) (B:a.eval x=u) (L:Am w u m size d) (h1:∀y∈d,y.oneCell'=true)
  (M:n+m<=bF) (N:(n+m)*bytes<=140737488355328) (O:base<=w.heap.size)
  (h:∀ao c w',w'.ownsRow base e size (aB ao (n+m) c) (n+m) (xs++d)->w.grownBy w' v.ownBlock->((aQ ao (n+m) c).ownBlock=v.ownBlock\/(aQ ao (n+m) c).ownBlock=aA w.heap.size)->K (a.put o.dst (aB ao (n+m) c)) w'):o.wp P a w K Q:=by
 obtain⟨C,ao,c,rfl,_,l⟩:=L;by_cases D:m=0
 ·subst D;have R:d=[]:=by simpa using C
  subst R;have S:=Ld (P:=P) (w:=w) base t o.type e i size q r v n xs k ao c;unfold Oper.wp execOp;simp only[p,resolve,invoke,builtin,Sem.run_bind,Sem.run_pure,Result.andThen_ok,List.map_toArray,bx,List.map_nil,A,B,S];obtain⟨T,E,rfl,_⟩:=Al k;exact h T E w (by rw[cg];exact k) (aV _ _) (.inl rfl)
 ·rcases l with U|⟨b,off,rfl,l⟩
  ·exact absurd U D
  ·refine wp_append_lies w s x t p base e i z size bytes q r F G H I J v n xs A k ⟨b,off,aE⟩ m c d B C (fun j y V=>by rw[YQ];exact l j y V) h1 (by omega) M N O w.heap.size rfl ?_;intro g E w' W X f _;refine h _ _ w' W X ?_;rcases f with f|f
   ·exact .inl (by rw[f];rfl)
   ·exact .inr (by rw[f];rfl)
theorem AD{rest:List Oper}(d:o.guard=aE)(s x:Operand)(t:aS)
  (f:o.op=.call { callee:=.builtin .append,args:=#[s,x],argTypes:=#[t,t] })
  (base:Nat) (e:aS) (i:b8) (z:Value) (size bytes:Nat) (g:P.underlying t=aA (.slice e)) (j:P.info? e=aA i) (k:i.zero=aA z)
  (l:i.size=size) (p:i.bytes=bytes) (q:z.cells.size=size) (r:0<size)
  (v:Value) (n:Nat) (xs:List Value) (A:a.eval s=v) (B:w.ownsRow base e size v n xs)
  (u:Value) (m:Nat) (c:List Value) (C:a.eval x=u) (D:Am w u m size c) (h1:∀y∈c,y.oneCell'=true)
  (E:n+m<=bF) (F:(n+m)*bytes<=140737488355328) (G:base<=w.heap.size)
  (h:∀ao b w',w'.ownsRow base e size (aB ao (n+m) b) (n+m) (xs++c)->w.grownBy w' v.ownBlock->((aQ ao (n+m) b).ownBlock=v.ownBlock\/(aQ ao (n+m) b).ownBlock=aA w.heap.size)->wpList P ops Q rest (a.put o.dst (aB ao (n+m) b)) w'):wpList P ops Q (o::rest) a w :=
 wpList_plain d fun _ H=>En s x t f base e i z size bytes g j k l p q r v n xs A B u m c C D h1 E F G fun ao b w' I J K=>H _ _ (h ao b w' I J K)
theorem A0{E:Prop}(d:o.guard=aE)(s x:Operand)(t:aS)
  (f:o.op=.call { callee:=.builtin .append,args:=#[s,x],argTypes:=#[t,t] })
  (base:Nat) (e:aS) (i:b8) (z:Value) (size bytes:Nat) (g:P.underlying t=aA (.slice e)) (j:P.info? e=aA i) (k:i.zero=aA z)
  (l:i.size=size) (p:i.bytes=bytes) (q:z.cells.size=size) (r:0<size)
  (v:Value) (n:Nat) (xs:List Value) (A:a.eval s=v) (B:w.ownsRow base e size v n xs)
  (u:Value) (m:Nat) (b:List Value) (C:a.eval x=u) (D:Am w u m size b) (h1:∀y∈b,y.oneCell'=true)
  (F:n+m<=bF) (G:(n+m)*bytes<=140737488355328) (H:base<=w.heap.size)
  (h:∀ao c w',w'.ownsRow base e size (aB ao (n+m) c) (n+m) (xs++b)->w.grownBy w' v.ownBlock->((aQ ao (n+m) c).ownBlock=v.ownBlock\/(aQ ao (n+m) c).ownBlock=aA w.heap.size)->K (a.put o.dst (aB ao (n+m) c)) w') :
  if bv o (yielded ops a.tmps)=true then Oper.wp P o a w K Q else E:=by
 have I:bv o (yielded ops a.tmps)=true:=by simp[bv,d]
 rw[if_pos I];exact En s x t f base e i z size bytes g j k l p q r v n xs A B u m b C D h1 F G H h
theorem Ay.grow{L:List MRow}{r:MRow}(h:Ay B w (r::L))(f:r'.isAt B w')(i:w.grownBy w' r.v.ownBlock)(a:r'.v.ownBlock=r.v.ownBlock\/r'.v.ownBlock=aA w.heap.size):Ay B w' (r'::L):=by
 have c:=bj.1 h.2;refine⟨fun s b=>?_,bj.2 ⟨fun s b=>?_,c.2⟩⟩
 ·rcases aR.1 b with rfl|h1
  ·exact f
  ·refine bt (h.1 s (by simp[h1])) i ?_;rcases c.1 s h1 with d|d
   ·cases j:s.v.ownBlock with
    | none=>exact Or.inl rfl
    | some g=>right;rw[d];simp
   ·exact Or.inr (fun e=>d e.symm)
 ·rcases a with a|a
  ·rw[a];exact c.1 s b
  ·rw[a];refine .inr fun e=>?_
   have:=(h.lt (be _ b) e.symm).2;omega
theorem M8(ws:List (List UInt8)):∀u∈strs ws,u.oneCell'=true:=by
 intro u a;simp only[strs,List.mem_map]at a;obtain⟨x,_,rfl⟩:=a;rfl
theorem CM(h:∀x∈ls,∃a n c,x.v=aB a n c):∀u∈ls.flatMap LAt.cells,u.oneCell'=true:=by
 intro u b;obtain⟨x,d,b⟩:=bq.1 b;obtain⟨a,n,c,e⟩:=h x d;simp only[LAt.cells,aR,aU,or_false]at b;rcases b with rfl|rfl
 ·rfl
 ·rw[e];rfl
theorem Gt(h:∀x∈bs,∃a n c,x.v=aB a n c):∀u∈bs.flatMap BAt.cells,u.oneCell'=true:=by
 intro u b;obtain⟨x,d,b⟩:=bq.1 b;obtain⟨a,n,c,e⟩:=h x d;simp only[BAt.cells,aR,aU,or_false]at b;rcases b with rfl|rfl|rfl
 ·rfl
 ·rfl
 ·rw[e];rfl
variable {ws:List (List UInt8)}{w2 w3 W:World}{vk v3 u1 u2:Value}
theorem Lp{size:Nat}(a:n=0)(b:xs.length=n*size):w.ownsRow B e size (aB aE n 0) n xs:=by
 subst a;have:xs=[]:=by simpa using b
 subst this;exact bn _ _ _ _
theorem Pz(h:Am w v ws.length 1 (strs ws))(C:ws.length<=1048576):Calls prog 157 #[v] w fun e w'=>∃ao g,e=aO (aB ao ws.length g)/\w'.ownsRow w.heap.size 9 1 (aB ao ws.length g) ws.length (strs ws)/\Below w.heap.size w w':=by
 obtain⟨ao,g,rfl⟩:=h.ad;have m:=M8 ws;have D:(strs ws).length=ws.length:=CE ws;generalize strs ws=xs at *;generalize ws.length=n at *;obtain⟨i0,o,p,q,r⟩:=bG Jc;have E:∀(w:World) (a:Option Addr) (n c n' d:Nat),(binOp .eql 52 (aB a n c) (aB aE n' d)).run prog w=.ok (.bool a.isNone) w:=fun w a n c n' d=>Lib.run_eql_slice_nil w _ _ a n c n' d underlying52
 cases ao with
 | none =>
  have f:n=0:=by
   obtain⟨_,j,d,s,_,t⟩:=h;cases s
   rcases t with f|⟨b,off,e,_⟩
   ·exact f
   ·cases e
  have u:w.ownsRow w.heap.size 9 1 (aB aE n 0) n xs:=Lp f (by omega);clear h;subst f;go_enter func157,ntmps157;go_wp2;go_ret;exact⟨aE,0,rfl,u,aL _ _⟩
 | some a =>
  have b0:=(aL w.heap.size w).alloc (aH _) (aG #[] 9);have h1:=h.V b0;have i:=aT (base:=w.heap.size) (e:=9) (size:=1) w #[] 0 (aH _) (by decide) rfl;clear h;go_enter func157,ntmps157;go_wp2_with (at_builtin;refine AD (by rfl) _ _ 52 (by rfl) w.heap.size 9 i0 (aC ⟨#[]⟩) 1 16 underlying52 o p q r rfl (by decide) _ 0 [] (by rfl) i _ n xs (by rfl) h1 m ?c3 ?c4 (by simp) ?_)
  case c3=>unfold bF;omega
  case c4=>omega
  intro j x w1 y l z;have A:=b0.grown l (by simp) (fun k B=>(i.lt k B).1);clear h1 i z l;go_wp2;go_ret;exact⟨j,x,rfl,y,A⟩
theorem Ay.own1{r:MRow}(h:r.isAt B w):Ay B w [r]:=⟨fun s a=>by rw[bN.1 a];exact h,by simp⟩
theorem IL{wc:World}{done:List LAt}{x:LAt}{T:aS}(f:A4 B wc vk done)(b:B<=wc.heap.size)(o2:w2.ownsRow wc.heap.size 9 1 x.v x.ws.length (strs x.ws))(a:Below wc.heap.size wc w2)
  (g:w3.ownsRow B 115 2 v3 (done.length+1) (done.flatMap LAt.cells++[aC x.key,x.v])) (c:(w2.alloc (aG cs T)).grownBy w3 vk.ownBlock) (h:v3.ownBlock=vk.ownBlock\/v3.ownBlock=aA (w2.alloc (aG cs T)).heap.size) :
  A4 B w3 v3 (done++[x])/\Below B wc w3:=by
 have i:Ay B w2 ([x.row]++EF vk done):=Ay.join f (Ay.own1 o2) a b;have d:Ay B w2 (⟨vk,115,2,done.length,done.flatMap LAt.cells⟩::(done.map LAt.row++[x.row])):=i.perm (by
  unfold EF;exact aY)
 have e:=(aL w2.heap.size w2).alloc (aH _) (aG cs T);have j:=d.V e;have l:=j.grow (r':=⟨v3,115,2,done.length+1,done.flatMap LAt.cells++[aC x.key,x.v]⟩) g c h;refine⟨?_,?_⟩
 ·unfold A4 EF;rw[aM,aD,bl];exact l
 ·have n:=a.size;exact((a.mono b).trans (e.mono (by omega))).grown c (by simp;omega) (fun k m=>(Ay.lt d (bk ..) m).1)
theorem KA{wc:World}{done:List BAt}{x:BAt}{T:aS}(f:Ax B wc vk done)(b:B<=wc.heap.size)(o2:A4 wc.heap.size w2 x.v x.ls)(a:Below wc.heap.size wc w2)
  (g:w3.ownsRow B 46 3 v3 (done.length+1) (done.flatMap BAt.cells++[aC x.aa,aC x.name,x.v])) (c:(w2.alloc (aG cs T)).grownBy w3 vk.ownBlock) (h:v3.ownBlock=vk.ownBlock\/v3.ownBlock=aA (w2.alloc (aG cs T)).heap.size) :
  Ax B w3 v3 (done++[x])/\Below B wc w3:=by
 have i:Ay B w2 (x.rows++K9 vk done):=Ay.join f o2 a b;have d:Ay B w2 (⟨vk,46,3,done.length,done.flatMap BAt.cells⟩::(done.flatMap BAt.rows++x.rows)):=i.perm (by
  unfold K9;exact aY)
 have e:=(aL w2.heap.size w2).alloc (aH _) (aG cs T);have j:=d.V e;have l:=j.grow (r':=⟨v3,46,3,done.length+1,done.flatMap BAt.cells++[aC x.aa,aC x.name,x.v]⟩) g c h;refine⟨?_,?_⟩
 ·unfold Ax K9;rw[aD,aD,bl,aP,aP];exact l
 ·have n:=a.size;exact((a.mono b).trans (e.mono (by omega))).grown c (by simp;omega) (fun k m=>(Ay.lt d (bk ..) m).1)
theorem M9{o1 o2:Nat}(a:Below B w W)(c:w.cell? ⟨g,o1,aE⟩=aA u1)(c2:w.cell? ⟨g,o2,aE⟩=aA u2)(b:g<B:=by first|assumption|(simp;done)|omega):W.cell? ⟨g,o1,aE⟩=aA u1/\W.cell? ⟨g,o2,aE⟩=aA u2 :=
 ⟨(a.cell (p:=⟨g,o1,aE⟩) b).trans c,(a.cell (p:=⟨g,o2,aE⟩) b).trans c2⟩
theorem Bn(w:World)(cs:Array Value)(T:aS)(size:Nat)(a:cs.size=size):Am (w.alloc (aG cs T)) (aB (aA ⟨w.heap.size,0,aE⟩) 1 1) 1 size cs.toList:=AF (aT (base:=w.heap.size) (e:=T) (size:=size) w cs 1 (aH _) (by decide) (by omega))
theorem FD(h:Ap w v ls)(p:Aj ls):Calls prog 94 #[v] w fun e w'=>∃v' ls',e=aO v'/\ls'.map LAt.I=ls.map LAt.I/\A4 w.heap.size w' v' ls'/\Below w.heap.size w w':=by
 obtain⟨ao,a1,rfl⟩:=h.1.ad;have O:=p.1;generalize P:ls.length=d at *;have E:=Ab P;clear P;obtain⟨i0,al,am,an,ap⟩:=bG CQ;go_enter func94,ntmps94;go_wp2;go_loopw [3,8] (fun q i wr=>∃(j:Nat) (done:List LAt),j<=d/\i=.int .i64 (j:Int)/\done.map LAt.I=(ls.take j).map LAt.I/\A4 w.heap.size wr q done/\Below w.heap.size w wr) (fun _ i _=>d-(intOf i).toNat)
 case atStart=>exact⟨0,[],by omega,rfl,by simp,Ay.own1 (bn _ _ _ _),aL _ _⟩
 case round =>
  obtain⟨j,done,a2,rfl,f,k,l⟩:=hrel;obtain⟨F,G,rfl,_⟩:=Al k.row;have aq:done.length=j:=by have:=congrArg cV f;simp at this;have:=E.out;omega
  subst aq;by_cases a3:done.length<d
  ·obtain⟨D,x,T,r,H⟩:=AC ls done.length (by have:=E.out;omega);have s:=h.V l;have t:x∈ls:=by rw[r];simp
   have I:=s;rw[r]at I;obtain⟨g,off,rfl,ar,c2⟩:=I.1.ai;obtain⟨a,b,Q⟩:=Am.ad (s.2 x t);have R:=Ab (show ∀v',(done++[⟨x.key,v',x.ws⟩]:List LAt).map LAt.I=(ls.take (done.length+1)).map LAt.I from by
    intro v';rw[aM,f,r,<-H,Bk,By,aM];rfl)
   have u:=s.2 x t;unfold BL at u;rw[Q]at u c2;rw[H]at ar c2;have au:=(aL wr.heap.size wr).alloc (aH _) (aG #[aC x.key,aB a x.ws.length b] 115);have k0:=AH (w:=wr) (cs:=#[aC x.key,aB a x.ws.length b]) (T:=115) 0;have J:=AH (w:=wr) (cs:=#[aC x.key,aB a x.ws.length b]) (T:=115) 1;simp only[bI,bC,List.getElem?_cons_succ]at k0 J;have z:=au.drew;have S:=Pz (u.V z) (p.2 x t).1;have K:A4 w.heap.size (wr.alloc (aG #[aC x.key,aB a x.ws.length b] 115)).drew (aB F done.length G) done:=k.V z;have U:=l.size;have V:w.heap.size<=(wr.alloc (aG #[aC x.key,aB a x.ws.length b] 115)).drew.heap.size:=aW U z.size;have X:=l.trans (z.mono U);have Y:=Ab (show ∀w2,Below (wr.alloc (aG #[aC x.key,aB a x.ws.length b] 115)).drew.heap.size (wr.alloc (aG #[aC x.key,aB a x.ws.length b] 115)).drew w2->∀cs,(w2.alloc (aG cs 115)).ownsRow w.heap.size 115 2 (aB F done.length G) done.length (done.flatMap LAt.cells) from fun w2 av cs=>(AI K.row av).alloc _);have Z:=Ab K;have L:=Ab (show ∀(A w3:World),A.grownBy w3 (aQ F done.length G).ownBlock->wr.heap.size<A.heap.size->∀o,w3.cell? ⟨wr.heap.size,o,aE⟩=A.cell? ⟨wr.heap.size,o,aE⟩ from fun A w3 aw O o=>aw.cell_far _ O (fun e=>by have:=(k.row.lt _ e.symm).2;simp at this));have a4:done.length+1<=1048577:=by omega
   have a5:(0:Int)<=(done.length:Int):=by omega
   have a6:(done.length:Int)<(d:Int):=by omega
   have M:(wr.alloc (aG #[aC x.key,aB a x.ws.length b] 115)).drew.cell? ⟨wr.heap.size,0,aE⟩=aA (aC x.key):=k0;have N:(wr.alloc (aG #[aC x.key,aB a x.ws.length b] 115)).drew.cell? ⟨wr.heap.size,1,aE⟩=aA (aB a x.ws.length b):=J;obtain⟨xk,a7,B⟩:=x;simp only at *;clear h s I p f k K u r Q H t k0 J;go_wp2;have a8:(wr.alloc (aG #[aC xk,aB a B.length b] 115)).drew.heap.size=wr.heap.size+1:=by simp
   generalize aa:strs B=a9 at *;generalize ab:B.length=nw at *;have ax:=Ab aa;have ay:=Ab ab;clear aa ab
   go_region_held3 (fun W=>W.cell? ⟨wr.heap.size,0,aE⟩=aA (aC xk)/\W.cell? ⟨wr.heap.size,1,aE⟩=aA (aB a nw b))
    (first|exact⟨M,N⟩|exact ac|exact C|exact ad)
    (first
      | (go_at_call 157
         refine S.mono ?_;rintro e w2 ⟨m,n,rfl,o2,c⟩;have ac:=M9 c M N;have az:=X.trans (c.mono V);have C:=M9 (c.alloc c.size (aG #[aC xk,aB m nw n] 115)) M N)
      | (refine A0 (by rfl) _ _ 44 (by rfl) w.heap.size 115 i0 _ 2 40 underlying44 al am an ap rfl (by decide) _ done.length _ (by rfl) (Y.out w2 c _) _ 1 _ (by rfl) (Bn w2 #[aC xk,aB m nw n] 115 2 rfl) (by intro y ae;simp at ae;rcases ae with rfl|rfl <;> rfl) (by unfold bF;omega) (by omega) (aW az.size (by simp)) ?_
         intro ba bb w3 o3 g3 v3;have af:=IL (x:=⟨xk,aB m nw n,B⟩) Z.out V (by simp only[ay.out,ax.out];exact o2) c o3 g3 v3;have ag:wr.heap.size<(w2.alloc (aG #[aC xk,aB m nw n] 115)).heap.size:=by have:=c.size;simp;omega
         have ad:=And.intro ((L.out _ _ g3 ag 0).trans C.1) ((L.out _ _ g3 ag 1).trans C.2)))
   have a0:=Ab (R.out (aB m nw n));clear R Y Z L ac C ad o2 o3 g3 v3 S;go_wp2;go_roundw;case rel=>exact⟨done.length+1,_,by omega,by go_num,a0.out,af.1,X.trans af.2⟩
   case measure=>simp[intOf];omega
  ·have ah:done.length=d:=by omega
   have ai:ls.take done.length=ls:=by rw[ah,<-E.out,b2]
   rw[ai]at f;have aj:=Ab k;have ak:=Ab f;have bc:¬((done.length:Int)<(d:Int)):=by omega
   clear h p k f ai ah;go_wp2;go_ret;first|exact⟨_,done,rfl,ak.out,aj.out,l⟩|exact⟨_,rfl,done,ak.out,aj.out,l⟩
variable {q:Nat}
def Bx(q:Nat)(v:Value)(n:Nat):Prop:=n=0\/∀b off m c,v=aB (aA ⟨b,off,aE⟩) m c->b≠q
theorem Am.aj{size:Nat}(h:Am w v n size xs)(c:Bx q v n)(l:w.grownBy w' (aA q)):Am w' v n size xs:=by
 obtain⟨m,ao,f,g,o,a⟩:=h;refine⟨m,ao,f,g,o,?_⟩;rcases a with d|⟨b,off,i,a⟩
 ·exact .inl d
 ·rcases c with d|c
  ·exact .inl d
  ·have p:=c b off n f (by rw[g,i]);exact .inr ⟨b,off,i,fun j u k=>(l.cell_far ⟨b,off+j,aE⟩ (aF w _ (a j u k)) (by intro e;cases e;exact p rfl)).trans (a j u k)⟩
theorem Bx.of_own{size:Nat}(h:w.ownsRow base e size v n xs)(a:v.ownBlock≠aA q):Bx q v n:=by
 rcases h.2 with ⟨rfl,d⟩|⟨g,f,i,rfl,_⟩
 ·exact .inl d
 ·refine .inr fun b off m c e=>?_
  cases e
  exact fun e=>a (by rw[<-e];rfl)
theorem Bx.of_lt{size:Nat}(h:Am w v n size xs)(f:0<size)(j:w.heap.size<=q):Bx q v n:=by
 obtain⟨g,ao,k,rfl,l,a⟩:=h;rcases a with d|⟨b,off,rfl,a⟩
 ·exact .inl d
 ·by_cases d:n=0
  ·exact .inl d
  ·refine .inr fun b' o m c e=>?_
   cases e
   have i:0<xs.length:=by rw[g];exact Nat.mul_pos (by omega) f
   have:b<w.heap.size:=aF w _ (a 0 xs[0] (aK i));omega
def Aw(q:Nat)(v:Value)(ls:List LAt):Prop:=Bx q v ls.length/\∀y∈ls,Bx q y.v y.ws.length
theorem Ap.aj(h:Ap w v ls)(a:Aw q v ls)(b:w.grownBy w' (aA q)):Ap w' v ls:=⟨h.1.aj a.1 b,fun x c=>(h.2 x c).aj (a.2 x c) b⟩
theorem Bx.above{size:Nat}(h:w.ownsRow B e size v n xs)(a:q<B):Bx q v n:=Bx.of_own h (fun e=>by have:=(h.lt q e).1;omega)
theorem Gu:(b1.info? 93).map (fun i=>(i.zero,i.size,i.bytes))=aA (aA (cO #[.int .i64 0,aC ⟨#[]⟩,aC ⟨#[]⟩,aC ⟨#[]⟩,aB aE 0 0]),5,80):=by kernel_rfl
structure Bl where
 what:Int
 aa:ByteArray
 name:ByteArray
 key:ByteArray
 v:Value
 ls:List LAt
def Bl.I(c:Bl):PChange:=⟨c.what,c.aa,c.name,c.key,c.ls.map LAt.I⟩
def Bl.cells(c:Bl):List Value:=[.int .i64 c.what,aC c.aa,aC c.name,aC c.key,c.v]
theorem Bl.len(c:Bl):c.cells.length=5:=rfl
def OA(w:World)(v:Value)(cs:List Bl):Prop:=Am w v cs.length 5 (cs.flatMap Bl.cells)/\∀c∈cs,Ap w c.v c.ls
def Bl.rows(c:Bl):List MRow:=EF c.v c.ls
def CG(v:Value)(cs:List Bl):List MRow:=⟨v,93,5,cs.length,cs.flatMap Bl.cells⟩::cs.flatMap Bl.rows
def AV(B:Nat)(w:World)(v:Value)(cs:List Bl):Prop:=Ay B w (CG v cs)
theorem AV.row{cs:List Bl}(h:AV B w v cs):w.ownsRow B 93 5 v cs.length (cs.flatMap Bl.cells):=Ay.head h
theorem AV.ac{cs:List Bl}(h:AV B w v cs)(c:Bl)(a:c∈cs):A4 B w c.v c.ls:=by
 obtain⟨A,C,e⟩:=Gs Bl.rows a;have b:Ay B w (A++(c.rows++C)):=by rw[<-e];exact Ay.tail h
 exact(Ay.right b).left
theorem AV.cin{cs:List Bl}(h:AV B w v cs):OA w v cs:=⟨AF h.row,fun c a=>(h.ac c a).lin⟩
theorem AV.V{cs:List Bl}(h:AV B w v cs)(a:Below w.heap.size w w'):AV B w' v cs:=Ay.V h a
theorem Gv(B:Nat)(w:World):AV B w (aB aE 0 0) []:=⟨fun r a=>by rw[bN.1 a];exact bn _ _ 93 5,by simp[CG]⟩
theorem Ju{wc:World}{done:List Bl}{x:Bl}{T:aS}(f:AV B wc vk done)(b:B<=wc.heap.size)(o2:A4 wc.heap.size w2 x.v x.ls)(a:Below wc.heap.size wc w2)
  (g:w3.ownsRow B 93 5 v3 (done.length+1) (done.flatMap Bl.cells++x.cells)) (c:(w2.alloc (aG cs T)).grownBy w3 vk.ownBlock) (h:v3.ownBlock=vk.ownBlock\/v3.ownBlock=aA (w2.alloc (aG cs T)).heap.size) :
  AV B w3 v3 (done++[x])/\Below B wc w3:=by
 have i:Ay B w2 (x.rows++CG vk done):=Ay.join f o2 a b;have d:Ay B w2 (⟨vk,93,5,done.length,done.flatMap Bl.cells⟩::(done.flatMap Bl.rows++x.rows)):=i.perm (by
  unfold CG;exact aY)
 have e:=(aL w2.heap.size w2).alloc (aH _) (aG cs T);have j:=d.V e;have l:=j.grow (r':=⟨v3,93,5,done.length+1,done.flatMap Bl.cells++x.cells⟩) g c h;refine⟨?_,?_⟩
 ·unfold AV CG;rw[aD,aD,bl,aP,aP];exact l
 ·have n:=a.size;exact((a.mono b).trans (e.mono (by omega))).grown c (by simp;omega) (fun k m=>(Ay.lt d (bk ..) m).1)
def MA(bs:List BAt)(kind name:ByteArray)(e:Ending):Prop:=((bs.map BAt.I).find? (AB kind name)=aE/\e=aO (.int .i64 (-1)))\/∃D b T,bs=D++b::T/\(bs.map BAt.I).find? (AB kind name)=aA b.I/\e=aO (.int .i64 (D.length:Int))
theorem MB(kind name:ByteArray)(h:Au w v bs)(u:bs.length<=1048576):Calls prog 52 #[cO #[v],aC kind,aC name] w fun e w'=>MA bs kind name e/\Below w.heap.size w w':=by
 obtain⟨ao,p,rfl⟩:=h.1.ad;have k:=(aL w.heap.size w).alloc (aH _) (aG #[aB ao bs.length p] 25);have k0:=AH (w:=w) (cs:=#[aB ao bs.length p]) (T:=25) 0;simp only[bI,bC]at k0;have h1:=h.V k;clear h;generalize q:bs.length=n at *;have l:=Ab q;clear q;go_enter func52,ntmps52;go_wp2;go_loop [7] (fun i=>∃j:Nat,j<=n/\i=.int .i64 (j:Int)/\Ck (bs.map BAt.I) kind name j) (fun i=>n-(intOf i).toNat)
 case atStart=>exact⟨0,by omega,rfl,Ck.zero _ _ _⟩
 case round =>
  obtain⟨j,y,rfl,f⟩:=hrel;by_cases z:j<n
  ·obtain⟨D,x,T,rfl,c⟩:=AC bs j (by have:=l.out;omega);obtain⟨g,off,rfl,s,c2,c3⟩:=h1.1.block;have m:Ck (D.map BAt.I++x.I::T.map BAt.I) kind name (D.map BAt.I).length:=by rw[aX,c];simpa using f
   have d:=Ab (show AB kind name x.I=true->MA (D++x::T) kind name (aO (.int .i64 (j:Int))) from fun o=>.inr ⟨D,x,T,rfl,by simpa using m.hit o,by rw[c]⟩);have b:=Ab (show AB kind name x.I=false->Ck ((D++x::T).map BAt.I) kind name (j+1) from fun o=>by have:=m.succ o;rw[aX,c]at this;simpa using this);rw[c]at s c2 c3;have hd:AB kind name x.I=((x.aa.toList==kind.toList)&&(x.name.toList==name.toList)):=rfl;rw[hd]at d b;have A:(0:Int)<=(j:Int):=by omega
   have B:(j:Int)<(n:Int):=by omega
   clear h1 f m hd c l;generalize x.aa=xk at *;generalize x.name=t at *;cases h1:(xk.toList==kind.toList)
   ·have a:=Ab (b.out (by rw[h1];rfl));clear d b;go_wp2;go_round
    case rel=>exact⟨j+1,by omega,by go_num,a.out⟩
    case measure=>simp[intOf];omega
   ·cases r:(t.toList==name.toList)
    ·have a:=Ab (b.out (by rw[h1,r];rfl));clear d b;go_wp2;go_round
     case rel=>exact⟨j+1,by omega,by go_num,a.out⟩
     case measure=>simp[intOf];omega
    ·have a:=Ab (d.out (by rw[h1,r];rfl));clear d b;go_wp2;go_ret;exact⟨a.out,k⟩
  ·obtain rfl:j=n:=by omega
   have a:=Ab (show MA bs kind name (aO (.int .i64 (-1))) from .inl ⟨Ck.none (by rw[aX,l.out];exact f),rfl⟩);clear h1 f;go_wp2;go_ret;exact⟨a.out,k⟩
theorem FR{o1 o2:Nat}(a:Below w.heap.size w W)(b:w.cell? ⟨g,o1,aE⟩=aA u1)(c2:w.cell? ⟨g,o2,aE⟩=aA u2):W.cell? ⟨g,o1,aE⟩=aA u1/\W.cell? ⟨g,o2,aE⟩=aA u2 :=
 ⟨(a.cell (aF _ _ b)).trans b,(a.cell (aF _ _ c2)).trans c2⟩
theorem Fx(h:Ap w v ls)(n:Aj ls):Calls prog 97 #[v] w fun e w'=>∃v' ls',e=aO v'/\ls'.map LAt.I=ls.map LAt.I/\A4 w.heap.size w' v' ls'/\Below w.heap.size w w':=by
 obtain⟨ao,a4,rfl⟩:=h.1.ad;have a5:=n.1;generalize I:ls.length=b at *;have B:=Ab I;clear I;obtain⟨i0,af,ag,ah,ai⟩:=bG CQ;obtain⟨aj,ak,al,am,an⟩:=bG Jc;have b0:=(aL w.heap.size w).alloc (aH _) (aG #[] 115);have C:=aT (base:=w.heap.size) (e:=115) (size:=2) w #[] 0 (aH _) (by decide) rfl;go_enter func97,ntmps97;go_wp2;go_loopw [3,4] (fun q i wr=>∃(j:Nat) (done:List LAt),j<=b/\i=.int .i64 (j:Int)/\done.map LAt.I=(ls.take j).map LAt.I/\A4 w.heap.size wr q done/\Below w.heap.size w wr) (fun _ i _=>b-(intOf i).toNat)
 case atStart=>exact⟨0,[],by omega,rfl,by simp,Ay.own1 C,b0⟩
 case round =>
  obtain⟨j,done,a6,rfl,c,f,o⟩:=hrel;obtain⟨J,K,rfl,_⟩:=Al f.row;have ap:done.length=j:=by have:=congrArg cV c;simp at this;have:=B.out;omega
  subst ap;by_cases a7:done.length<b
  ·obtain⟨D,x,T,p,E⟩:=AC ls done.length (by have:=B.out;omega);have r:x∈ls:=by rw[p];simp
   have F:=h;rw[p]at F;obtain⟨g,off,rfl,d,a⟩:=F.1.ai;obtain⟨aq,ar,L⟩:=Am.ad (h.2 x r);have M:=Ab (show ∀v',(done++[⟨x.key,v',x.ws⟩]:List LAt).map LAt.I=(ls.take (done.length+1)).map LAt.I from by
    intro v';rw[aM,c,p,<-E,Bk,By,aM];rfl)
   have s:=h.2 x r;unfold BL at s;rw[L]at s a;rw[E]at d a;have au:=M8 x.ws;have a8:x.ws.length<=1048576:=(n.2 x r).1;have l:=o.size;have t:=o.drew;have N:=t.alloc l (aG #[] 9);have O:=Ab (s.V N);have P:=aT (base:=wr.heap.size) (e:=9) (size:=1) wr.drew #[] 0 (aH _) (by decide) rfl;have Q:=Ab (show ∀w2,(wr.drew.alloc (aG #[] 9)).grownBy w2 (aA wr.heap.size)->Below wr.heap.size wr.drew w2 from fun w2 u=>((aL wr.heap.size wr.drew).alloc (aH _) _).grown u (by simp) (fun k av=>by cases av;exact aH _));have G:A4 w.heap.size wr.drew (aB J done.length K) done:=f.V ((aL wr.heap.size wr).drew);have R:=Ab (show ∀w2,Below wr.heap.size wr.drew w2->∀cs,(w2.alloc (aG cs 115)).ownsRow w.heap.size 115 2 (aB J done.length K) done.length (done.flatMap LAt.cells) from fun w2 aw cs=>(AI G.row aw).alloc _);have S:=Ab G;have a9:(0:Int)<=(done.length:Int):=by omega
   have i2:(done.length:Int)<(b:Int):=by omega
   have ax:=FR t d a;have ay:=FR N d a;obtain⟨xk,ba,H⟩:=x;simp only at *;generalize U:strs H=az at *;generalize V:H.length=nw at *;have a0:=Ab U;have a1:=Ab V;clear h F n c f G s p L E r U V C b0;go_wp2
   go_region_held3 (fun W=>W.cell? ⟨g,off+done.length*2,aE⟩=aA (aC xk)/\W.cell? ⟨g,off+done.length*2+1,aE⟩=aA (aB aq nw ar))
    (first|exact ax|exact ay|exact FR X d a|exact FR a2 d a|exact FR Y d a)
    (first
      | (refine A0 (by rfl) _ _ 52 (by rfl) wr.heap.size 9 aj (aC ⟨#[]⟩) 1 16 underlying52 ak al am an rfl (by decide) _ 0 [] (by rfl) P _ nw az (by rfl) O.out au (by unfold bF;omega) (by omega) (by simp) ?_
         intro z A w2 o2 u v2;have m:=Q.out w2 u;have X:=t.trans (m.mono l);have a2:=X.alloc (aW l m.size) (aG #[aC xk,aB z nw A] 115))
      | (refine A0 (by rfl) _ _ 44 (by rfl) w.heap.size 115 i0 _ 2 40 underlying44 af ag ah ai rfl (by decide) _ done.length _ (by rfl) (R.out w2 m _) _ 1 _ (by rfl) (Bn w2 #[aC xk,aB z nw A] 115 2 rfl) (by intro y Z;simp at Z;rcases Z with rfl|rfl <;> rfl) (by unfold bF;omega) (by omega) (aW l (aW m.size (by simp))) ?_
         intro bb bc w3 o3 g3 v3;have aa:=IL (x:=⟨xk,aB z nw A,H⟩) S.out l (by simp only[a1.out,a0.out];simpa using o2) m o3 g3 v3;have Y:=t.trans aa.2))
   have a3:=Ab (M.out (aB z nw A));clear M R S Q O P o2 o3 u g3 v2 v3;go_wp2;go_roundw;case rel=>exact⟨done.length+1,_,by omega,by go_num,a3.out,aa.1,Y⟩
   case measure=>simp[intOf];omega
  ·have ab:done.length=b:=by omega
   have ac:ls.take done.length=ls:=by rw[ab,<-B.out,b2]
   rw[ac]at c;have ad:=Ab f;have ae:=Ab c;have bd:¬((done.length:Int)<(b:Int)):=by omega
   clear h n f c ac ab C b0;go_wp2;go_ret;first|exact⟨_,done,rfl,ae.out,ad.out,o⟩|exact⟨_,rfl,done,ae.out,ad.out,o⟩
variable {D T:List BAt}{ls':List LAt}
theorem Ay.midTurn{A C:List MRow}{r:MRow}(h:Ay B w (A++r::C))(a:r'.v=r.v)(b:r'.isAt B w')(c:w.grownBy w' r.v.ownBlock):Ay B w' (A++r'::C) :=
 (Ay.turn (h.perm b3) a b c).perm b3.symm
theorem YW(f:α->List Value)(k:Nat)(a:∀x,(f x).length=k)(D T:List α)(r r':α)(c:Nat)(u:Value)(d:c<k)(b:f r'=(f r).set c u):((D++r::T).flatMap f).set (D.length*k+c) u=(D++r'::T).flatMap f:=by
 rw[aD,aJ,bH _ _ (by rw[Bs f k a];omega),Bs f k a,Nat.add_sub_cancel_left,List.set_append_left _ _ (by rw[a];omega),<-b,aD,aJ]
def LM(B:Nat)(w:World)(v:Value)(C:List LAt)(rest:List MRow):Prop:=Ay B w (EF v C++rest)
theorem LM.own{C:List LAt}{rest:List MRow}(h:LM B w v C rest):A4 B w v C:=Ay.left h
theorem LM.size{cap:Nat}{C:List LAt}{rest:List MRow}(h:LM B w (aB (aA ⟨g,0,aE⟩) n cap) C rest)(a:C.length=n):w.ownsRow B 115 2 (aB (aA ⟨g,0,aE⟩) n cap) n (C.flatMap LAt.cells):=by
 subst a;exact Ay.head h
theorem LM.cell{cap:Nat}{D T:List LAt}{r:LAt}{rest:List MRow}(h:LM B w (aB (aA ⟨g,0,aE⟩) n cap) (D++r::T) rest)(c:Nat)(b:c<2):w.cell? ⟨g,D.length*2+c,aE⟩=r.cells[c]?:=by
 have h1:=(Ay.head h).cells rfl (D.length*2+c);obtain⟨u,a⟩:∃u,r.cells[c]?=aA u:=⟨_,aK (by simp[LAt.cells];omega)⟩;rw[a];rw[<-Lm];exact h1 u (by rw[C5 _ 2 LAt.len D T r c b,a])
theorem LM.words{D T:List LAt}{r:LAt}{rest:List MRow}(h:LM B w v (D++r::T) rest):w.ownsRow B 9 1 r.v r.ws.length (strs r.ws):=h.own.words r (by simp)
theorem LM.set{cap:Nat}{D T:List LAt}{r:LAt}{rest:List MRow}(h:LM B w (aB (aA ⟨g,0,aE⟩) n cap) (D++r::T) rest)(b:(D++r::T).length=n)(c:Nat)(u:Value)(r':LAt)(d:c<2)(f:r'.cells=r.cells.set c u)(i:r'.row=r.row):
  LM B (w.setCell ⟨g,D.length*2+c,aE⟩ u) (aB (aA ⟨g,0,aE⟩) n cap) (D++r'::T) rest:=by
 have a:=(h.size b).stored (D.length*2+c) u;rw[YW _ 2 LAt.len D T r r' c u d f]at a;unfold LM EF at h⊢;have e:(D++r'::T).map LAt.row=(D++r::T).map LAt.row:=by rw[aM,aM,bx,bx,i]
 have j:(D++r'::T).length=(D++r::T).length:=by simp
 rw[e,j];subst b;exact Ay.turn h rfl a.1 a.2
theorem LM.turn{D T:List LAt}{r:LAt}{rest:List MRow}(h:LM B w v (D++r::T) rest)(a:List (List UInt8))(b:a.length=r.ws.length)(c:w'.ownsRow B 9 1 r.v r.ws.length (strs a))(d:w.grownBy w' r.v.ownBlock):LM B w' v (D++{ r with ws:=a }::T) rest:=by
 have e:∀x:LAt,((D++x::T).map LAt.row++rest)=D.map LAt.row++(x.row::(T.map LAt.row++rest)):=fun x=>by simp
 unfold LM EF at h⊢;have ec:(D++{ r with ws:=a }::T).flatMap LAt.cells=(D++r::T).flatMap LAt.cells:=by rw[aD,aD,aJ,aJ];rfl
 have f:(D++{ r with ws:=a }::T).length=(D++r::T).length:=by simp
 rw[b4,e]at h;rw[b4,e,ec,f];exact Ay.midTurn (A:=_::D.map LAt.row) (r:=r.row) (r':=LAt.row { r with ws:=a }) h rfl (by show w'.ownsRow B 9 1 r.v a.length (strs a);rw[b];exact c) d
def BM(B:Nat)(w:World)(v:Value)(C:List BAt)(rest:List MRow):Prop:=Ay B w (K9 v C++rest)
theorem BM.own{C:List BAt}{rest:List MRow}(h:BM B w v C rest):Ax B w v C:=Ay.left h
theorem Ax.bm{C:List BAt}(h:Ax B w v C):BM B w v C []:=by unfold BM;rw[cg];exact h
def E6(v:Value)(D:List BAt)(r:BAt)(T:List BAt)(rest:List MRow):List MRow:=(⟨v,46,3,(D++r::T).length,(D++r::T).flatMap BAt.cells⟩::D.flatMap BAt.rows)++(T.flatMap BAt.rows++rest)
theorem KF(v:Value)(D:List BAt)(r:BAt)(T:List BAt)(rest:List MRow):(K9 v (D++r::T)++rest).Perm (EF r.v r.ls++E6 v D r T rest):=by
 have e:K9 v (D++r::T)++rest=(⟨v,46,3,(D++r::T).length,(D++r::T).flatMap BAt.cells⟩::D.flatMap BAt.rows)++(EF r.v r.ls++(T.flatMap BAt.rows++rest)):=by
  unfold K9;rw[aD,aJ];simp[BAt.rows]
 rw[e];exact List.perm_append_comm_assoc _ _ _
theorem BM.ac{r:BAt}{rest:List MRow}(h:BM B w v (D++r::T) rest):LM B w r.v r.ls (E6 v D r T rest):=Ay.perm h (KF v D r T rest)
theorem BM.back{r:BAt}{rest:List MRow}(h:LM B w r.v ls' (E6 v D r T rest)):BM B w v (D++{ r with ls:=ls' }::T) rest:=by
 refine Ay.perm h (List.Perm.symm ?_);have e:E6 v D r T rest=E6 v D { r with ls:=ls' } T rest:=by
  unfold E6;rw[show (D++{ r with ls:=ls' }::T).flatMap BAt.cells=(D++r::T).flatMap BAt.cells by rw[aD,aD,aJ,aJ];rfl,show (D++{ r with ls:=ls' }::T).length=(D++r::T).length by simp]
 rw[e];exact KF v D { r with ls:=ls' } T rest
def IN(B:Nat)(w:World)(v:Value)(bs:List BAt):Prop:=w.ownsRow B 46 3 v bs.length (bs.flatMap BAt.cells)/\∀x∈bs,Ap w x.v x.ls/\∀q,v.ownBlock=aA q->Aw q x.v x.ls
theorem IN.bin(h:IN B w v bs):Au w v bs:=⟨AF h.1,fun x a=>(h.2 x a).1⟩
theorem IN.V(h:IN B w v bs)(a:Below w.heap.size w w'):IN B w' v bs:=⟨AI h.1 a,fun x b=>⟨(h.2 x b).1.V a,(h.2 x b).2⟩⟩
theorem S3{L:List MRow}{r s:MRow}(h:Ay B w (r::L))(c:s∈L)(b:r.v.ownBlock=aA q):Bx q s.v s.n:=by
 have a:=(bj.1 h.2).1 s c;refine Bx.of_own (h.1 s (be _ c)) (fun e=>?_);rcases a with a|a
 ·rw[a]at b;cases b
 ·exact a (b.trans e.symm)
theorem Ax.brow(h:Ax B w v bs):IN B w v bs:=by
 refine⟨h.row,fun x a=>⟨(h.ac x a).lin,fun q b=>?_⟩⟩;have c:∀s∈BAt.rows x,s∈bs.flatMap BAt.rows:=fun s d=>bq.2 ⟨x,a,d⟩
 refine⟨?_,fun y e=>?_⟩
 ·exact S3 (s:=⟨x.v,115,2,x.ls.length,x.ls.flatMap LAt.cells⟩) h (c _ (by unfold BAt.rows EF;simp)) b
 ·exact S3 (s:=LAt.row y) h (c _ (by unfold BAt.rows EF;simp;exact .inr ⟨y,e,rfl⟩)) b
theorem IN.set{cap:Nat}{x b:BAt}(h:IN B w (aB (aA ⟨g,0,aE⟩) n cap) (D++x::T))(d:(D++x::T).length=n)(j:Ap w b.v b.ls)(e:Aw g b.v b.ls):
  IN B (w.setCells g (D.length*3) b.cells) (aB (aA ⟨g,0,aE⟩) n cap) (D++b::T)/\w.grownBy (w.setCells g (D.length*3) b.cells) (aA g):=by
 have h1:=h.1;rw[d]at h1;obtain⟨ys,f,c,k⟩:=DW b.cells (D.length*3) w _ h1;have l:=k (D.flatMap BAt.cells) x.cells (T.flatMap BAt.cells) (by simp) (Bs _ 3 BAt.len D) (by rw[BAt.len,BAt.len]);have m:(D++b::T).length=n:=by rw[<-d];simp
 refine⟨⟨?_,fun i a=>?_⟩,c⟩
 ·rw[m];rw[l]at f;simpa using f
 ·rcases List.mem_append.1 a with a|a
  ·have:=h.2 i (by simp[a]);exact⟨this.1.aj (this.2 g rfl) c,this.2⟩
  ·rcases aR.1 a with rfl|a
   ·exact⟨j.aj e c,fun q o=>by cases o;exact e⟩
   ·have:=h.2 i (by simp[a]);exact⟨this.1.aj (this.2 g rfl) c,this.2⟩
theorem IN.cell{cap:Nat}{x:BAt}(h:IN B w (aB (aA ⟨g,0,aE⟩) n cap) (D++x::T))(c:Nat)(b:c<3):w.cell? ⟨g,D.length*3+c,aE⟩=x.cells[c]?:=by
 have h1:=h.1.cells rfl (D.length*3+c);obtain⟨u,a⟩:∃u,x.cells[c]?=aA u:=⟨_,aK (by simp[BAt.cells];omega)⟩;rw[a];rw[<-Lm];exact h1 u (by rw[C5 _ 3 BAt.len D T x c b,a])
theorem IN.there{cap:Nat}{x:BAt}(h:IN B w (aB (aA ⟨g,0,aE⟩) n cap) (D++x::T))(a:(D++x::T).length=n):w.there g (D.length*3) 3:=by
 have h1:=h.1;rw[a]at h1;refine EO h1 _ _ ?_;have:D.length+1<=n:=by rw[<-a];simp
 omega
variable {v1 v2:Value}
def X2(a b:Nat)(v1 v2:Value)(W:World):Prop:=W.cell? ⟨a,0,aE⟩=aA v1/\W.cell? ⟨b,0,aE⟩=aA v2
theorem X2.V{a b:Nat}(s:X2 a b v1 v2 w)(c:Below w.heap.size w W):X2 a b v1 v2 W:=⟨(c.cell (aF w _ s.1)).trans s.1,(c.cell (aF w _ s.2)).trans s.2⟩
variable {ao:Option Addr}{m:Nat}
theorem Am.change{cap:Nat}{D T:List Bl}{x:Bl}(h:Am w (aB ao m cap) n 5 ((D++x::T).flatMap Bl.cells)):∃b off,ao=aA ⟨b,off,aE⟩/\w.cell? ⟨b,off+D.length*5,aE⟩=aA (.int .i64 x.what)/\w.cell? ⟨b,off+D.length*5+1,aE⟩=aA (aC x.aa)/\w.cell? ⟨b,off+D.length*5+2,aE⟩=aA (aC x.name)/\w.cell? ⟨b,off+D.length*5+3,aE⟩=aA (aC x.key)/\w.cell? ⟨b,off+D.length*5+4,aE⟩=aA x.v:=by
 have c:0<n:=by have:=h.1;rw[Bs _ 5 Bl.len]at this;simp at this;omega
 obtain⟨b,off,d,a⟩:=h.at c;refine⟨b,off,d,?_,?_,?_,?_,?_⟩
 ·have:=a (D.length*5+0) (.int .i64 x.what) (by rw[C5 _ 5 Bl.len _ _ _ 0 (by decide)];rfl);simpa using this
 ·have:=a (D.length*5+1) (aC x.aa) (by rw[C5 _ 5 Bl.len _ _ _ 1 (by decide)];rfl);rw[<-bi]at this;exact this
 ·have:=a (D.length*5+2) (aC x.name) (by rw[C5 _ 5 Bl.len _ _ _ 2 (by decide)];rfl);rw[<-bi]at this;exact this
 ·have:=a (D.length*5+3) (aC x.key) (by rw[C5 _ 5 Bl.len _ _ _ 3 (by decide)];rfl);rw[<-bi]at this;exact this
 ·have:=a (D.length*5+4) x.v (by rw[C5 _ 5 Bl.len _ _ _ 4 (by decide)];rfl);rw[<-bi]at this;exact this
section
open Go.Shelf
def laysSortL_ren:b5:=⟨fun|6=>74|15=>146|14=>145|28=>200|29=>201|20=>192|21=>193|22=>194|23=>195|24=>196|25=>197|26=>198|27=>199|46=>233|47=>234|48=>235|49=>236|50=>237|57=>258|n=>n,fun|22=>44|24=>115|25=>116|3=>3|39=>215|0=>0|53=>277|55=>279|4=>4|46=>271|45=>270|50=>179|5=>5|9=>9|66=>298|70=>302|76=>313|77=>224|n=>n,fun|n=>n⟩
theorem X9:bg prog laysSortL_ren:={
 mixed:=by kernel_rfl
 f6:=⟨Tryz.f74.name,by decide,Tryz.func74.trans (congrArg aA (by kernel_rfl))⟩
 f14:=⟨Tryz.f145.name,by decide,Tryz.func145.trans (congrArg aA (by kernel_rfl))⟩
 f15:=cN.trans (congrArg aA (by kernel_rfl))
 f20:=⟨Tryz.f192.name,by decide,Tryz.func192.trans (congrArg aA (by kernel_rfl))⟩
 f21:=⟨Tryz.f193.name,by decide,Tryz.func193.trans (congrArg aA (by kernel_rfl))⟩
 f22:=⟨Tryz.f194.name,by decide,Tryz.func194.trans (congrArg aA (by kernel_rfl))⟩
 f23:=⟨Tryz.f195.name,by decide,Tryz.func195.trans (congrArg aA (by kernel_rfl))⟩
 f24:=⟨Tryz.f196.name,by decide,Tryz.func196.trans (congrArg aA (by kernel_rfl))⟩
 f25:=⟨Tryz.f197.name,by decide,Tryz.func197.trans (congrArg aA (by kernel_rfl))⟩
 f26:=⟨Tryz.f198.name,by decide,Tryz.func198.trans (congrArg aA (by kernel_rfl))⟩
 f27:=⟨Tryz.f199.name,by decide,Tryz.func199.trans (congrArg aA (by kernel_rfl))⟩
 f28:=cM.trans (congrArg aA (by kernel_rfl))
 f29:=cL.trans (congrArg aA (by kernel_rfl))
 f46:=⟨Tryz.f233.name,by decide,Tryz.func233.trans (congrArg aA (by kernel_rfl))⟩
 f47:=cK.trans (congrArg aA (by kernel_rfl))
 f48:=cJ.trans (congrArg aA (by kernel_rfl))
 f49:=⟨Tryz.f236.name,by decide,Tryz.func236.trans (congrArg aA (by kernel_rfl))⟩
 f50:=⟨Tryz.f237.name,by decide,Tryz.func237.trans (congrArg aA (by kernel_rfl))⟩
 f57:=⟨Tryz.f258.name,by decide,Tryz.func258.trans (congrArg aA (by kernel_rfl))⟩
 t0:=underlying0
 a0:=cT
 z0:=cI
 v0:=ce
 t3:=underlying3
 a3:=cS
 z3:=cH
 v3:=cd
 t4:=underlying4
 a4:=cR
 z4:=cG
 v4:=cc
 t5:=underlying5
 a5:=cQ
 z5:=cF
 v5:=ca
 t9:=underlying9
 a9:=cP
 z9:=cE
 v9:=b9
 t22:=underlying44
 a22:=Tryz.isAgg44
 z22:=Tryz.sizeOf44
 v22:=Tryz.zeroValue44
 t25:=underlying116
 a25:=Tryz.isAgg116
 z25:=Tryz.sizeOf116
 v25:=Tryz.zeroValue116
 t39:=underlying215
 a39:=cB
 z39:=cq
 v39:=bW
 t45:=underlying270
 a45:=cz
 z45:=co
 v45:=bU
 t46:=underlying271
 a46:=cy
 z46:=cn
 v46:=bT
 t50:=underlying179
 a50:=cC
 z50:=cr
 v50:=bX
 t53:=underlying277
 a53:=cx
 z53:=cm
 v53:=bS
 t55:=underlying279
 a55:=cw
 z55:=cl
 v55:=bR
 t66:=underlying298
 a66:=cv
 z66:=ck
 v66:=bQ
 t70:=underlying302
 a70:=cu
 z70:=cj
 v70:=bP
 t76:=underlying313
 a76:=ct
 z76:=ci
 v76:=bO
 t77:=underlying224
 a77:=cA
 z77:=cp
 v77:=bV }
def laysSortB_ren:b5:=⟨fun|6=>76|15=>146|14=>151|28=>200|29=>201|20=>206|21=>207|22=>208|23=>209|24=>210|25=>211|26=>212|27=>213|46=>239|47=>234|48=>235|49=>240|50=>241|57=>259|n=>n,fun|22=>23|24=>46|25=>80|3=>3|39=>215|0=>0|53=>277|55=>279|4=>4|46=>271|45=>270|50=>179|5=>5|9=>9|66=>298|70=>302|76=>313|77=>224|n=>n,fun|n=>n⟩
theorem XA:bg prog laysSortB_ren:={
 mixed:=by kernel_rfl
 f6:=⟨Tryz.f76.name,by decide,Tryz.func76.trans (congrArg aA (by kernel_rfl))⟩
 f14:=⟨Tryz.f151.name,by decide,Tryz.func151.trans (congrArg aA (by kernel_rfl))⟩
 f15:=cN.trans (congrArg aA (by kernel_rfl))
 f20:=⟨Tryz.f206.name,by decide,Tryz.func206.trans (congrArg aA (by kernel_rfl))⟩
 f21:=⟨Tryz.f207.name,by decide,Tryz.func207.trans (congrArg aA (by kernel_rfl))⟩
 f22:=⟨Tryz.f208.name,by decide,Tryz.func208.trans (congrArg aA (by kernel_rfl))⟩
 f23:=⟨Tryz.f209.name,by decide,Tryz.func209.trans (congrArg aA (by kernel_rfl))⟩
 f24:=⟨Tryz.f210.name,by decide,Tryz.func210.trans (congrArg aA (by kernel_rfl))⟩
 f25:=⟨Tryz.f211.name,by decide,Tryz.func211.trans (congrArg aA (by kernel_rfl))⟩
 f26:=⟨Tryz.f212.name,by decide,Tryz.func212.trans (congrArg aA (by kernel_rfl))⟩
 f27:=⟨Tryz.f213.name,by decide,Tryz.func213.trans (congrArg aA (by kernel_rfl))⟩
 f28:=cM.trans (congrArg aA (by kernel_rfl))
 f29:=cL.trans (congrArg aA (by kernel_rfl))
 f46:=⟨Tryz.f239.name,by decide,Tryz.func239.trans (congrArg aA (by kernel_rfl))⟩
 f47:=cK.trans (congrArg aA (by kernel_rfl))
 f48:=cJ.trans (congrArg aA (by kernel_rfl))
 f49:=⟨Tryz.f240.name,by decide,Tryz.func240.trans (congrArg aA (by kernel_rfl))⟩
 f50:=⟨Tryz.f241.name,by decide,Tryz.func241.trans (congrArg aA (by kernel_rfl))⟩
 f57:=⟨Tryz.f259.name,by decide,Tryz.func259.trans (congrArg aA (by kernel_rfl))⟩
 t0:=underlying0
 a0:=cT
 z0:=cI
 v0:=ce
 t3:=underlying3
 a3:=cS
 z3:=cH
 v3:=cd
 t4:=underlying4
 a4:=cR
 z4:=cG
 v4:=cc
 t5:=underlying5
 a5:=cQ
 z5:=cF
 v5:=ca
 t9:=underlying9
 a9:=cP
 z9:=cE
 v9:=b9
 t22:=underlying23
 a22:=Tryz.isAgg23
 z22:=Tryz.sizeOf23
 v22:=Tryz.zeroValue23
 t25:=underlying80
 a25:=Tryz.isAgg80
 z25:=Tryz.sizeOf80
 v25:=Tryz.zeroValue80
 t39:=underlying215
 a39:=cB
 z39:=cq
 v39:=bW
 t45:=underlying270
 a45:=cz
 z45:=co
 v45:=bU
 t46:=underlying271
 a46:=cy
 z46:=cn
 v46:=bT
 t50:=underlying179
 a50:=cC
 z50:=cr
 v50:=bX
 t53:=underlying277
 a53:=cx
 z53:=cm
 v53:=bS
 t55:=underlying279
 a55:=cw
 z55:=cl
 v55:=bR
 t66:=underlying298
 a66:=cv
 z66:=ck
 v66:=bQ
 t70:=underlying302
 a70:=cu
 z70:=cj
 v70:=bP
 t76:=underlying313
 a76:=ct
 z76:=ci
 v76:=bO
 t77:=underlying224
 a77:=cA
 z77:=cp
 v77:=bV }
end
theorem Ng[Inhabited α](enc:α->List Value)(k:Nat)(c:∀x,(enc x).length=k)(a:List α):(bh enc k a.toArray).toList=a.flatMap enc:=by
 have d:(bh enc k a.toArray).size=a.length*k:=by simp
 apply bZ;intro t;by_cases b:t<a.length*k
 ·have k0:0<k:=by
   rcases Nat.eq_zero_or_pos k with h|h;· subst h;simp at b
   ·exact h
  have i:t/k<a.length:=(Nat.div_lt_iff_lt_mul k0).2 b;obtain⟨D,r,T,rfl,g⟩:=AC a (t/k) i;have f:=Nat.mod_lt t k0;have e:t=D.length*k+t%k:=by rw[g,Nat.mul_comm];exact(Nat.div_add_mod t k).symm
  have h1:=Sort.get_flatK enc k (D++r::T).toArray t (by simpa using b);rw[aI,aN (by rw[d];exact b)];rw[getElem!_pos _ t (by rw[d];exact b)]at h1;rw[h1,e,C5 enc k c D T r (t%k) f];have j:(D.length*k+t%k)/k=D.length:=by rw[<-e,g]
  have l:(D.length*k+t%k)%k=t%k:=by rw[<-e]
  rw[j,l];have m:(D++r::T).toArray[D.length]! = r:=by simp
  rw[m,aK (by rw[c];exact f),getElem!_pos _ _ (by rw[c];exact f)]
 ·rw[aZ (by rw[bK,d];omega),aZ (by rw[Bs enc k c];omega)]
theorem KL[Inhabited α](enc:α->List Value)(k:Nat)(w:World)(a off m:Nat)(d:Array α)(os:Array Obj):w.grownBy (sortWorldK enc k w a off m d os) (aA a):=by
 refine⟨rfl,rfl,rfl,by simp[sortWorldK,bD],fun q b c=>?_⟩;have f:a≠q:=fun e=>c (by rw[e])
 unfold sortWorldK bD;rw[bM _ _ (by simpa using b)];simp[cU,cD,cW,bE,f]
theorem Vk(a F:Array Value)(h:F.size<=a.size):(bf id 0 F a).toList.take F.size=F.toList:=by
 apply bZ;intro j;by_cases b:j<F.size
 ·rw[bz b,aI];simp[bf,b,show j<a.size by omega]
 ·rw[List.getElem?_take_eq_none (by omega),aZ (by simp;omega)]
theorem Vl[Inhabited α](enc:α->List Value)(k:Nat){a:Array Value}{fr:Nat × Nat}(d:Array α)(os:Array Obj)(b:w.heap[g]?=aA (aG a e fr)):(sortWorldK enc k w g 0 m d os).heap[g]?=aA (aG (bf id 0 (bh enc k d) a) e fr):=by
 have c:g<w.heap.size:=(bu.1 b).1;unfold sortWorldK bD;rw[bM _ _ (by simpa using c)];simp[cU,cD,cW,bE,b,Sort.onCells]
structure Ady{β:Type}(cf:β->β->Int):Prop where
 irr:∀x,¬cf x x<0
 trans:∀x y z,cf x y<0->cf y z<0->cf x z<0
 ntrans:∀x y z,¬cf x y<0->¬cf y z<0->¬cf x z<0
theorem KM{z:Shelf.Ren}(G:SlLaysF0.n6 prog z)(k:Nat)(ae:∀w,(isAgg (z.t 24)).run prog w=.ok true w)(af:∀w,(Go.sizeOf (z.t 24)).run prog w=.ok k w)(d:β->List Value)(Q:∀x,(d x).length=k)(Good:β->Prop)(h1:∀x,Good x->∀v∈d x,v.oneCell'=true)
  (r:β->β->Int) (H:Ady r) (F:Nat) (cb:Array Value) (ag:∀args w,(callFunc F args).run prog w=.ok (.enter F args) w) {xs:List β} (I:w.ownsRow B e k v xs.length (xs.flatMap d)) (R:∀x∈xs,Good x)
  (ah:∀q,v.ownBlock=aA q->∀W,w.grownBy W (aA q)->∀x y,Good x->Good y->Calls prog F (#[cO (d x).toArray,cO (d y).toArray]++cb) W fun e w'=>e=aO (.int .i64 (r x y))/\AW W w') (a4:xs.length<=1048577) :
  Calls prog (z.f 6) #[v,.func (.func F) #[] cb] w fun t w'=>t=aO (.tuple #[])/\∃ys:List β,ys.Perm xs/\w'.ownsRow B e k v xs.length (ys.flatMap d)/\(∀i j:Nat,i<j->∀a b,ys[i]?=aA a->ys[j]?=aA b->¬r b a<0)/\w.grownBy w' v.ownBlock:=by
 rcases I.2 with ⟨rfl,ai⟩|⟨g,J,K,rfl,aj,A,S,ak,T,al⟩
 ·obtain rfl:xs=[]:=bB.1 ai;exact(bw G aE 0 _ w).mono fun t w' ⟨o,p⟩=>⟨o,[],.refl _,by rw[p];exact I,by simp,by rw[p];exact aV _ _⟩
 ·cases xs with
  | nil=>exact(bw G (aA ⟨g,0,aE⟩) J _ w).mono fun t w' ⟨o,p⟩=>⟨o,[],.refl _,by rw[p];exact I,by simp,by rw[p];exact aV _ _⟩
  | cons C am =>
   generalize U:C::am=xs at *;have an:Good C:=R C (by rw[<-U];simp);clear U;letI:Inhabited { x:β // Good x }:=⟨⟨C,an⟩⟩;obtain⟨f,L⟩:∃f:List { x:β // Good x },f.map bA=xs:=⟨xs.pmap Subtype.mk R,by simp[List.map_pmap]⟩;have M:∀c:{ x:β // Good x },(d c.1).length=k:=fun c=>Q c.1
   have V:∀l:List { x:β // Good x },l.flatMap (fun c=>d c.1)=(l.map bA).flatMap d:=fun l=>by rw[List.flatMap_map]
   have u:f.toArray.size=xs.length:=by rw[<-L];simp
   have ao:xs.length*k<=K.size:=by rw[T];exact Nat.mul_le_mul_right _ S
   have ap:Sort.HoldsK (fun c:{ x:β // Good x }=>d c.1) k w g 0 f.toArray:=by
    intro j h;have X:=Ng (fun c:{ x:β // Good x }=>d c.1) k M f;rw[V,L]at X;have aq:j<xs.length*k:=by rw[br,u]at h;exact h
    refine⟨?_,by simp[ch,A]⟩;have Y:(K.toList.take (xs.length*k))[j]?=(bh (fun c:{ x:β // Good x }=>d c.1) k f.toArray).toList[j]?:=by rw[al,X]
    rw[bz aq,aI,aI,aN h]at Y;rw[Nat.zero_add,getElem!_pos _ j h];have:=Aa A j;rw[this,Y];rfl
   have ar:g<w.heap.size:=(bu.1 A).1;have au:Sort.SWO (ltOf (fun x y:{ x:β // Good x }=>r x.1 y.1)):=by
    refine⟨fun x=>?_,fun x y c N O=>?_,fun x y c N O=>?_⟩
    ·exact decide_eq_false (H.irr x.1)
    ·exact decide_eq_true (H.trans x.1 y.1 c.1 (of_decide_eq_true N) (of_decide_eq_true O))
    ·exact decide_eq_false (H.ntrans x.1 y.1 c.1 (of_decide_eq_false N) (of_decide_eq_false O))
   have av:CmpLays prog F cb (fun c:{ x:β // Good x }=>d c.1) k (fun x y=>r x.1 y.1) g 0 f.toArray.size w:=fun m D aw _ x y =>
    (ah g rfl _ (KL _ k w g 0 m aw D) x.1 y.1 x.2 y.2).mono fun t w' ⟨o,p⟩=>⟨o,p.grow⟩
   have Z:=AnyQ.slices_SortFunc G k ae af (fun c:{ x:β // Good x }=>d c.1) M (fun c=>h1 c.1 c.2) (fun x y=>r x.1 y.1) au F cb g 0 J f.toArray w ag av ap ar (by rw[u];omega);rw[u]at Z;refine Z.mono ?_;rintro t w' ⟨o,d',n,D,⟨s,_,aa⟩,ax,rfl⟩;rw[u]at s;have ay:d'.toList.Perm f:=by
    have az:d'.extract 0 xs.length=d':=by rw[<-s];exact bL
    have a0:f.toArray.extract 0 xs.length=f.toArray:=by rw[<-u];exact bL
    rw[az,a0]at aa;simpa using aa
   have a1:d'.toList.toArray=d':=by simp
   refine⟨o,d'.toList.map bA,by rw[<-L];exact ay.map _,⟨?_,.inr ⟨g,J,_,rfl,aj,Vl _ k d' D A,S,ak,by simp[bf,T],?_⟩⟩,fun i j a2 a b P E=>?_,KL _ k w g 0 n d' D⟩
   ·rw[Bs _ k Q,aX,bK,s]
   ·have ab:=Ng (fun c:{ x:β // Good x }=>d c.1) k M d'.toList;rw[a1,V]at ab;have ac:=Vk K (bh (fun c:{ x:β // Good x }=>d c.1) k d') (by rw[br,s];exact ao);rw[br,s,ab]at ac;exact ac
   ·have h:j<d'.size:=by have:=(List.getElem?_eq_some_iff.1 E).1;simpa using this
    have:=ax i j (Nat.zero_le _) a2 (by rw[<-s];exact h);have ad:i<d'.size:=by omega
    rw[getElem!_pos d' j h,getElem!_pos d' i ad]at this;have a3:=of_decide_eq_false this;rw[bY,aI,aN ad]at P;rw[bY,aI,aN h]at E;simp only[Option.map_some,Option.some.injEq]at P E;rw[<-P,<-E];exact a3
variable {vr:Value}{L:List AL}
theorem Z3(R:List Plain):Ady (fun a b:LAt=>lineCmp R a.I b.I):=by
 refine⟨fun x=>?_,fun x y c h k=>?_,fun x y c h k q=>?_⟩
 ·rw[EY];exact Df R _
 ·rw[EY]at *;exact CK R _ _ _ h k
 ·rw[EY,CJ]at *;simp only[not_or,not_and]at h k;have f:placeI R y.I.key=placeI R x.I.key:=by omega
  have g:placeI R c.I.key=placeI R y.I.key:=by omega
  have d:x.I.ws<c.I.ws:=by
   rcases q with q|q
   ·omega
   ·exact q.2
  have i:=h.2 f.symm;have k':=k.2 g.symm;by_cases e:y.I.ws<x.I.ws
  ·exact k' (Fp.trans _ _ _ e d)
  ·have:=Fp.tri _ _ i e;rw[<-this]at k';exact k' d
theorem XB:Ady (fun a b:BAt=>blockCmp a.aa a.name b.aa b.name):=by
 refine⟨fun x=>?_,fun x y c h k=>?_,fun x y c h k q=>?_⟩
 ·exact fun h=>DJ x.I ((Cc x.I x.I).1 h)
 ·exact(Cc x.I c.I).2 (Cr _ _ _ ((Cc x.I y.I).1 h) ((Cc y.I c.I).1 k))
 ·have h:¬blockLt x.I y.I=true:=fun e=>h ((Cc x.I y.I).2 e)
  have k:¬blockLt y.I c.I=true:=fun e=>k ((Cc y.I c.I).2 e)
  have q:=(Cc x.I c.I).1 q;rw[Ch]at h k q;simp only[not_or,not_and]at h k;have a1:¬x.I.aa.toList<y.I.aa.toList:=h.1;have a2:¬y.I.aa.toList<c.I.aa.toList:=k.1;rcases q with q|⟨f,g⟩
  ·by_cases d:y.I.aa.toList<x.I.aa.toList
   ·exact a2 (Fp.trans _ _ _ d q)
   ·rw[<-Fp.tri _ _ a1 d]at a2;exact a2 q
  ·have i:x.I.aa.toList=y.I.aa.toList:=by
    by_cases d:y.I.aa.toList<x.I.aa.toList
    ·rw[<-f]at a2;exact absurd d a2
    ·exact Fp.tri _ _ a1 d
   have l:=h.2 i;have k':=k.2 (i.symm.trans f);by_cases j:y.I.name.toList<x.I.name.toList
   ·exact k' (Fp.trans _ _ _ j g)
   ·rw[<-Fp.tri _ _ l j]at k';exact k' g
theorem I4(p:w.ownsRow B 115 2 v ls.length (ls.flatMap LAt.cells))(r:L.length<=12)(l:DA w vr L)(m:w.cell? ⟨g,0,aE⟩=aA vr)(f:∀x∈ls,BL w x/\x.ws.length<=1048576)
  (s:∀q,v.ownBlock=aA q->Bx q vr L.length/\g≠q/\∀x∈ls,Bx q x.v x.ws.length) (t:ls.length<=1048577) :
  Calls prog 74 #[v,.func (.func 147) #[] #[.pointer (aA ⟨g,0,aE⟩)]] w fun e w'=>e=aO (.tuple #[])/\∃ls':List LAt,ls'.Perm ls/\w'.ownsRow B 115 2 v ls.length (ls'.flatMap LAt.cells)/\(∀i j:Nat,i<j->∀a b,ls'[i]?=aA a->ls'[j]?=aA b->lineLt (L.map AL.I) b.I a.I=false)/\w.grownBy w' v.ownBlock:=by
 have z:=KM X9 (β:=LAt) 2 Tryz.isAgg115 Tryz.sizeOf115 LAt.cells LAt.len (fun x=>x∈ls) (fun x d u n=>by
   obtain⟨a,c,e⟩:=Am.ad (f x d).1;simp only[LAt.cells,aR,aU,or_false]at n;rcases n with rfl|rfl
   ·rfl
   ·rw[e];rfl) (fun a b=>lineCmp (L.map AL.I) a.I b.I) (Z3 _) 147 #[.pointer (aA ⟨g,0,aE⟩)] (enters_of func147 (by kernel_rfl) rfl) p (fun x d=>d)
  (fun q A W h x y d k=>by
    obtain⟨C,D,o⟩:=s q A;have E:DA W vr L:=⟨l.1.aj C h,l.2⟩;have F:W.cell? ⟨g,0,aE⟩=aA vr:=(h.cell_far ⟨g,0,aE⟩ (aF w _ m) (by intro e;cases e;exact D rfl)).trans m;exact Iq x.I y.I g E r F ((f x d).1.aj (o x d) h) ((f y k).1.aj (o y k) h) (f x d).2 (f y k).2) t
 refine z.mono fun e w' ⟨G,ys,h1,H,I,J⟩=>⟨G,ys,h1,H,fun i j K a b M N=>?_,J⟩
 rw[<-b7,<-EY];exact I i j K a b M N
theorem Nh(h:w.ownsRow B 46 3 v bs.length (bs.flatMap BAt.cells))(f:∀x∈bs,∃a n c,x.v=aB a n c)(k:bs.length<=1048577):
  Calls prog 76 #[v,.func (.func 51) #[] #[]] w fun e w'=>e=aO (.tuple #[])/\∃bs':List BAt,bs'.Perm bs/\w'.ownsRow B 46 3 v bs.length (bs'.flatMap BAt.cells)/\(∀i j:Nat,i<j->∀a b,bs'[i]?=aA a->bs'[j]?=aA b->blockLt b.I a.I=false)/\w.grownBy w' v.ownBlock:=by
 have l:=KM XA (β:=BAt) 3 Tryz.isAgg46 Tryz.sizeOf46 BAt.cells BAt.len (fun x=>x∈bs) (fun x d u g=>by
   obtain⟨a,n,c,e⟩:=f x d;simp only[BAt.cells,aR,aU,or_false]at g;rcases g with rfl|rfl|rfl
   ·rfl
   ·rfl
   ·rw[e];rfl) (fun a b=>blockCmp a.aa a.name b.aa b.name) XB 51 #[] (enters_of func51 (by kernel_rfl) rfl) h (fun x d=>d)
  (fun q E W F x y d m=>by
    obtain⟨a,n,c,e⟩:=f x d;obtain⟨a',n',o,p⟩:=f y m;show Calls _ _ #[cO #[aC x.aa,aC x.name,x.v],cO #[aC y.aa,aC y.name,y.v]] _ _
    rw[e,p];exact Db x.aa x.name y.aa y.name n n' c o a a' W) k
 refine l.mono fun e w' ⟨r,ys,h1,s,t,z⟩=>⟨r,ys,h1,s,fun i j A a b C D=>?_,z⟩
 rw[<-b7,<-Cc];exact t i j A a b C D
