import Derived.Test.YtpdahhnjhggocaaGreatDoorMr6
import Derived.Sort.Grow
import Derived.Shelf.Small.Strs
import Derived.Shelf.Lay
import Derived.Ground.NamesProg
import Derived.Shelf.Strings.Search2
import Derived.Shelf.RegionOpenPlain
import Derived.Lib.IndexLaws
open Go.Proofs.Tryz
open Go.Value renaming string->aA,slice->aB,pointer->bH,agg->bS,tuple->co
open Option renaming some->aC,none->aE
open Go.World renaming block_lt_of_cell?->aD,drewN_drewN->aS,cell?->bN,size_drew->b9
open Go.Ending renaming returned->aF
open Go.Obj renaming cells->aG
open List renaming getElem?_eq_some_iff->aH,getElem?_cons_zero->aJ,getElem?_toArray->aK,getElem?_cons_succ->aL,drop_eq_getElem_cons->aM,length_map->aP,take_length->aQ,take_succ_eq_append_getElem->aR,take_append_drop->aT,take_of_length_le->aU,length_take->aV,take_append_of_le_length->aY,flatMap_cons->bA,drop_length->bB,cons_append->bC,mem_of_mem_take->bD,take_succ_cons->bE,mem_singleton->bF,length_append->bG,mem_map->bJ,take_append->bO,getElem_map->bP,mem_append->bR,getElem?_append_right->bT,findIdx?_eq_none_iff->bU,getElem?_eq_getElem->bV,length_singleton->bY,mem_iff_getElem->bZ,drop_succ_cons->b4,map_singleton->b5,append_of_mem->b6,append_assoc->b7,any_eq_false->b8,length_drop->cc,any_eq_true->cd,not_lt_nil->cg,map_append->ch,map_take->ck
open Go.ByteArray renaming toList_eq->aI
open Nat renaming le_refl->aN,add_assoc->aX,lt_succ_of_lt->bK,le_trans->bL,add_sub_cancel_left->bX,lt_succ_self->cf,min_eq_left->cj,succ_mul->cl,zero_le->cn
open Go.RowKit.Below renaming refl->aO
open ByteArray renaming mk->aW
open Go.Lib renaming indexByte->aZ
open Go.IntKind renaming wrap_i64->bI,i64->bW
open And renaming left->bM
open Bool renaming not_eq_true->bQ,eq_iff_iff->ci
open Go renaming below_drewN->ce
open Go.Op renaming bytesLess->cm
namespace Go.Proofs.YtpdahhnjhggocaaGreatDoor
open Go.RowKit
set_option maxHeartbeats 16000000
set_option maxRecDepth 100000
variable {w w':World}{v:Value}{α:Type}{ao:Option Addr}{n m:Nat}
structure LAt where
 key:ByteArray
 v:Value
 ws:List (List UInt8)
def LAt.cells(x:LAt):List Value:=[aA x.key,x.v]
def LAt.I(x:LAt):PLine:=⟨x.key,x.ws⟩
structure BAt where
 aa:ByteArray
 name:ByteArray
 v:Value
 ls:List LAt
def BAt.cells(x:BAt):List Value:=[aA x.aa,aA x.name,x.v]
def BAt.I(x:BAt):PBlock:=⟨x.aa,x.name,x.ls.map LAt.I⟩
def BL(w:World)(x:LAt):Prop:=Am w x.v x.ws.length 1 (strs x.ws)
def Ap(w:World)(v:Value)(ls:List LAt):Prop:=Am w v ls.length 2 (ls.flatMap LAt.cells)/\∀x∈ls,BL w x
def Bf(w:World)(b:BAt):Prop:=Ap w b.v b.ls
def Au(w:World)(v:Value)(bs:List BAt):Prop:=Am w v bs.length 3 (bs.flatMap BAt.cells)/\∀b∈bs,Bf w b
theorem BL.V{x:LAt}(h:BL w x)(a:Below w.heap.size w w'):BL w' x:=Am.V h a
theorem Ap.V{ls:List LAt}(h:Ap w v ls)(a:Below w.heap.size w w'):Ap w' v ls:=⟨h.1.V a,fun x b=>(h.2 x b).V a⟩
theorem Bf.V{b:BAt}(h:Bf w b)(a:Below w.heap.size w w'):Bf w' b:=Ap.V h a
theorem Au.V{bs:List BAt}(h:Au w v bs)(a:Below w.heap.size w w'):Au w' v bs:=⟨h.1.V a,fun x b=>(h.2 x b).V a⟩
theorem Bs(f:α->List Value)(k:Nat)(b:∀x,(f x).length=k)(L:List α):(L.flatMap f).length=L.length*k:=by
 induction L with
 | nil=>simp
 | cons a M c=>rw[bA,bG,c,b,List.length_cons,cl];omega
theorem C5(f:α->List Value)(k:Nat)(a:∀x,(f x).length=k)(D T:List α)(r:α)(c:Nat)(b:c<k):((D++r::T).flatMap f)[D.length*k+c]?=(f r)[c]?:=by
 rw[List.flatMap_append,bA,bT (by rw[Bs f k a];omega),Bs f k a,bX,List.getElem?_append_left (by rw[a];omega)]
theorem Oz(f:α->List Value)(k:Nat)(b:∀x,(f x).length=k)(L:List α)(n:Nat):(L.flatMap f).take (n*k)=(L.take n).flatMap f:=by
 induction n generalizing L with
 | zero=>simp
 | succ n c =>
  cases L with
  | nil=>simp
  | cons a L=>rw[bA,bE,bA,cl,Nat.add_comm,bO,b,bX,c,aU (by rw[b];omega)]
theorem LAt.len(x:LAt):x.cells.length=2:=rfl
theorem BAt.len(x:BAt):x.cells.length=3:=rfl
theorem Am.ai{cap:Nat}{D T:List LAt}{x:LAt}(h:Am w (aB ao m cap) n 2 ((D++x::T).flatMap LAt.cells)):∃b off,ao=aC ⟨b,off,aE⟩/\w.cell? ⟨b,off+D.length*2,aE⟩=aC (aA x.key)/\w.cell? ⟨b,off+D.length*2+1,aE⟩=aC x.v:=by
 have c:0<n:=by have:=h.1;rw[Bs _ 2 LAt.len]at this;simp at this;omega
 obtain⟨b,off,d,a⟩:=h.at c;refine⟨b,off,d,?_,?_⟩
 ·have:=a (D.length*2+0) (aA x.key) (by rw[C5 _ 2 LAt.len _ _ _ 0 (by decide)];rfl);simpa using this
 ·have:=a (D.length*2+1) x.v (by rw[C5 _ 2 LAt.len _ _ _ 1 (by decide)];rfl);rw[<-aX]at this;exact this
theorem Am.block{cap:Nat}{D T:List BAt}{x:BAt}(h:Am w (aB ao m cap) n 3 ((D++x::T).flatMap BAt.cells)):∃b off,ao=aC ⟨b,off,aE⟩/\w.cell? ⟨b,off+D.length*3,aE⟩=aC (aA x.aa)/\w.cell? ⟨b,off+D.length*3+1,aE⟩=aC (aA x.name)/\w.cell? ⟨b,off+D.length*3+2,aE⟩=aC x.v:=by
 have c:0<n:=by have:=h.1;rw[Bs _ 3 BAt.len]at this;simp at this;omega
 obtain⟨b,off,d,a⟩:=h.at c;refine⟨b,off,d,?_,?_,?_⟩
 ·have:=a (D.length*3+0) (aA x.aa) (by rw[C5 _ 3 BAt.len _ _ _ 0 (by decide)];rfl);simpa using this
 ·have:=a (D.length*3+1) (aA x.name) (by rw[C5 _ 3 BAt.len _ _ _ 1 (by decide)];rfl);rw[<-aX]at this;exact this
 ·have:=a (D.length*3+2) x.v (by rw[C5 _ 3 BAt.len _ _ _ 2 (by decide)];rfl);rw[<-aX]at this;exact this
def AW(w w':World):Prop:=Below w.heap.size w w'/\w.drawn<=w'.drawn
theorem AW.refl(w:World):AW w w:=⟨aO _ _,aN _⟩
theorem AW.trans{a b c:World}(h:AW a b)(k:AW b c):AW a c:=⟨h.1.trans (k.1.mono h.1.size),bL h.2 k.2⟩
theorem AW.alloc(h:AW w w')(o:Obj):AW w (w'.alloc o):=⟨h.1.alloc h.1.size o,h.2⟩
theorem AW.drewN(h:AW w w')(n:Nat):AW w (w'.drewN n):=⟨⟨h.1.os,h.1.tape,h.1.output,h.1.size,h.1.block⟩,bL h.2 (Nat.le_add_right _ _)⟩
theorem AW.grow(h:AW w w'):∃q a,w'=Sort.grow (w.drewN q) a:=by
 obtain⟨⟨h1,b,c,f,d⟩,g⟩:=h;refine⟨w'.drawn-w.drawn,w'.heap.extract w.heap.size w'.heap.size,?_⟩;obtain⟨heap,k,l,a,m⟩:=w;obtain⟨j,n,o,p,r⟩:=w';simp only at h1 b c f d g;subst h1 b c;simp only[Sort.grow,World.drewN,World.mk.injEq,true_and,and_true];refine⟨?_,by omega⟩;apply Array.ext_getElem?;intro i;by_cases e:i<heap.size
 ·rw[Array.getElem?_append_left e];exact d i e
 ·rw[Array.getElem?_append_right (by omega),Array.getElem?_extract];by_cases s:i<j.size
  ·rw[if_pos (by omega),show heap.size+(i-heap.size)=i by omega]
  ·rw[Array.getElem?_eq_none (by omega),if_neg (by omega)]
variable {ys:List (List UInt8)}{k ca cb:Nat}{bo:Option Addr}
open Go.Shelf in
shelf_lay Lays.n106 Nm 106 at Tryz as Tryz.strCmp
theorem Mj(a b:ByteArray)(w:World):Calls prog 116 #[aA a,aA b] w fun e w'=>e=aF (.int .i64 (DP a.toList b.toList))/\w'=w:=by
 have h:=Any.strings_Compare Tryz.strCmp a b w;rw[LW]at h;rw[aI,aI];exact h
theorem Gj(x:Int)(w:World):Calls prog 202 #[.int .i64 x] w fun e w'=>e=aF (.bool false)/\w'=w:=by
 go_enter func202,ntmps202;go_wp2;go_ret;exact⟨by simp,rfl⟩
theorem Gl(x:ByteArray)(w:World):Calls prog 238 #[aA x] w fun e w'=>e=aF (.bool false)/\w'=w:=by
 go_enter func238,ntmps238;go_wp2;go_ret;exact⟨by simp,rfl⟩
def Aa8(x y:Int):Int:=if x<y then -1 else if y<x then 1 else 0
theorem Mk(x y:Int)(w:World):Calls prog 148 #[.int .i64 x,.int .i64 y] w fun e w'=>e=aF (.int .i64 (Aa8 x y))/\w'=w:=by
 unfold Aa8;by_cases h1:x<y
 ·rw[if_pos h1];go_enter func148,ntmps148;go_wp2_with (go_at_call 202;refine(Gj _ _).mono ?_;rintro e w ⟨rfl,rfl⟩)
  go_ret;exact⟨rfl,rfl⟩
 ·rw[if_neg h1];by_cases a:y<x
  ·rw[if_pos a];go_enter func148,ntmps148;go_wp2_with (go_at_call 202;refine(Gj _ _).mono ?_;rintro e w ⟨rfl,rfl⟩)
   go_ret;exact⟨rfl,rfl⟩
  ·rw[if_neg a];go_enter func148,ntmps148;go_wp2_with (go_at_call 202;refine(Gj _ _).mono ?_;rintro e w ⟨rfl,rfl⟩)
   go_ret;exact⟨rfl,rfl⟩
def cmpS(x y:List UInt8):Int:=if x<y then -1 else if y<x then 1 else 0
theorem Ml(x y:ByteArray)(w:World):Calls prog 205 #[aA x,aA y] w fun e w'=>e=aF (.int .i64 (cmpS x.toList y.toList))/\w'=w:=by
 unfold cmpS;have b:=Ji x.toList y.toList;by_cases h1:x.toList<y.toList
 ·rw[decide_eq_true h1]at b;rw[if_pos h1];clear h1;go_enter func205,ntmps205;go_wp2_with (go_at_call 238;refine(Gl _ _).mono ?_;rintro e w ⟨rfl,rfl⟩)
  go_ret;exact⟨rfl,rfl⟩
 ·rw[decide_eq_false h1]at b;rw[if_neg h1];by_cases a:y.toList<x.toList
  ·have c:(x.toList==y.toList)=false:=by rw[beq_eq_false_iff_ne];exact fun e=>Fp.irr _ (e▸a)
   rw[if_pos a];clear h1 a;go_enter func205,ntmps205;go_wp2_with (go_at_call 238;refine(Gl _ _).mono ?_;rintro e w ⟨rfl,rfl⟩)
   go_ret;exact⟨rfl,rfl⟩
  ·have c:(x.toList==y.toList)=true:=by rw[beq_iff_eq];exact Fp.tri _ _ h1 a
   rw[if_neg a];clear h1 a;go_enter func205,ntmps205;go_wp2_with (go_at_call 238;refine(Gl _ _).mono ?_;rintro e w ⟨rfl,rfl⟩)
   go_ret;exact⟨rfl,rfl⟩
def orI(a b:Int):Int:=if a=0 then b else a
theorem Kb(a b:Int)(g:Nat)(w:World)(h:w.cell? ⟨g,0,aE⟩=aC (.int .i64 a))(h1:w.cell? ⟨g,1,aE⟩=aC (.int .i64 b)):Calls prog 115 #[aB (aC ⟨g,0,aE⟩) 2 2] w fun e w'=>e=aF (.int .i64 (orI a b))/\w'=w:=by
 unfold orI;by_cases c:a=0
 ·subst c;rw[if_pos rfl];by_cases d:b=0
  ·subst d;go_enter func115,ntmps115;go_wp2;go_loop [8] (fun i=>∃k:Nat,k<=2/\i=.int .i64 (k:Int)) (fun i=>2-(intOf i).toNat)
   case atStart=>exact⟨0,by omega,rfl⟩
   case round =>
    obtain⟨k,f,rfl⟩:=hrel;rcases(show k=0\/k=1\/k=2 by omega) with rfl|rfl|rfl
    ·go_wp2;go_round
     case rel=>exact⟨1,by omega,rfl⟩
     case measure=>simp[intOf]
    ·go_wp2;go_round
     case rel=>exact⟨2,by omega,rfl⟩
     case measure=>simp[intOf]
    ·go_wp2;go_ret;exact⟨rfl,rfl⟩
  ·go_enter func115,ntmps115;go_wp2;go_loop [8] (fun i=>∃k:Nat,k<=1/\i=.int .i64 (k:Int)) (fun i=>2-(intOf i).toNat)
   case atStart=>exact⟨0,by omega,rfl⟩
   case round =>
    obtain⟨k,f,rfl⟩:=hrel;rcases(show k=0\/k=1 by omega) with rfl|rfl
    ·go_wp2;go_round
     case rel=>exact⟨1,by omega,rfl⟩
     case measure=>simp[intOf]
    ·go_wp2;go_ret;exact⟨rfl,rfl⟩
 ·rw[if_neg c];go_enter func115,ntmps115;go_wp2;go_loop [8] (fun i=>i=.int .i64 0) (fun _=>0)
  case atStart=>rfl
  case round =>
   subst hrel;go_wp2;go_ret;exact⟨rfl,rfl⟩
def Dh(xs ys:List (List UInt8))(k:Nat):Prop:=k<=ys.length/\xs.take k=ys.take k
theorem Hw{xs:List (List UInt8)}(h:xs.take k=ys.take k)(a:k<=xs.length)(b:k<=ys.length):DP xs ys=DP (xs.drop k) (ys.drop k):=by
 induction k generalizing xs ys with
 | zero=>simp
 | succ k c =>
  match xs,ys,a,b with
  | x::xs,y::ys,a,b =>
   simp only[bE,List.cons.injEq]at h;obtain⟨rfl,h⟩:=h;rw[b4,b4,<-c h (by simpa using a) (by simpa using b)];rw[DP,if_neg (Fp.irr _),if_neg (Fp.irr _)]
theorem Dh.zero(xs ys:List (List UInt8)):Dh xs ys 0:=⟨cn _,by simp⟩
theorem WU{x y:List UInt8}(h:cmpS x y=0):x=y:=by
 unfold cmpS at h;by_cases h1:x<y
 ·rw[if_pos h1]at h;cases h
 ·rw[if_neg h1]at h;by_cases a:y<x
  ·rw[if_pos a]at h;cases h
  ·exact Fp.tri _ _ h1 a
theorem Dh.succ{xs:List (List UInt8)}(h:Dh xs ys k)(h1:k<xs.length)(a:k<ys.length)(e:cmpS xs[k] ys[k]=0):Dh xs ys (k+1):=by
 refine⟨a,?_⟩;rw[aR h1,aR a,h.2,WU e]
theorem Dh.parts{xs:List (List UInt8)}(h:Dh xs ys k)(h1:k<xs.length)(c:k<ys.length)(e:cmpS xs[k] ys[k]≠0):cmpS xs[k] ys[k]=DP xs ys:=by
 rw[Hw h.2 (by omega) h.1,aM h1,aM c,DP];unfold cmpS at e⊢;by_cases a:xs[k]<ys[k]
 ·rw[if_pos a,if_pos a]
 ·rw[if_neg a]at e⊢;by_cases b:ys[k]<xs[k]
  ·rw[if_pos b,if_neg a,if_pos b]
  ·rw[if_neg b]at e;exact absurd rfl e
theorem Dh.more{xs:List (List UInt8)}(h:Dh xs ys k)(h1:k<xs.length)(a:¬k<ys.length):(1:Int)=DP xs ys:=by
 have:k=ys.length:=by have:=h.1;omega
 subst this;rw[Hw h.2 (by omega) h.1,aM h1,bB];rfl
theorem Dh.less{xs:List (List UInt8)}(h:Dh xs ys xs.length)(a:xs.length<ys.length):(-1:Int)=DP xs ys:=by
 rw[Hw h.2 (by omega) h.1,aM a,bB];rfl
theorem Dh.end{xs:List (List UInt8)}(h:Dh xs ys xs.length)(a:¬xs.length<ys.length):(0:Int)=DP xs ys:=by
 have:xs.length=ys.length:=by have:=h.1;omega
 rw[Hw h.2 (by omega) h.1,bB,this,bB];rfl
theorem Jp{xs:List (List UInt8)}(h1:Am w (aB ao n ca) xs.length 1 (strs xs))(f:Am w (aB bo m cb) ys.length 1 (strs ys))(s:n<=1048576)(t:m<=1048576):Calls prog 150 #[aB ao n ca,aB bo m cb] w fun e w'=>e=aF (.int .i64 (DP xs ys))/\w'=w:=by
 have d:=Ab (show n=xs.length by obtain⟨_,_,_,e,_⟩:=h1;cases e;rfl);have g:=Ab (show m=ys.length by obtain⟨_,_,_,e,_⟩:=f;cases e;rfl);go_enter func150,ntmps150;go_wp2;go_loop [11] (fun i=>∃k:Nat,k<=n/\i=.int .i64 (k:Int)/\Dh xs ys k) (fun i=>n-(intOf i).toNat)
 case atStart=>exact⟨0,by omega,rfl,Dh.zero _ _⟩
 case round =>
  obtain⟨k,u,rfl,a⟩:=hrel;by_cases v:k<n
  ·have p:k<xs.length:=by have:=d.out;omega
   obtain⟨b,off,rfl,z⟩:=h1.word k p;by_cases A:k<m
   ·have q:k<ys.length:=by have:=g.out;omega
    obtain⟨B,C,rfl,c2⟩:=f.word k q;have j:=fun W=>Ml ⟨xs[k].toArray⟩ ⟨ys[k].toArray⟩ W
    have l:(aW xs[k].toArray).toList=xs[k]:=by rw[aI]
    have o:(aW ys[k].toArray).toList=ys[k]:=by rw[aI]
    rw[l,o]at j;by_cases h:cmpS xs[k] ys[k]=0
    ·have c:=a.succ (by have:=d.out;omega) (by have:=g.out;omega) h;rw[h]at j;generalize (⟨xs[k].toArray⟩:ByteArray)=x at *;generalize (⟨ys[k].toArray⟩:ByteArray)=y at *;clear a h1 f h l o;go_wp2_with (go_at_call 205;refine(j _).mono ?_;rintro e w ⟨rfl,rfl⟩)
     go_round
     case rel=>exact⟨k+1,by omega,by go_num,c⟩
     case measure=>simp[intOf];omega
    ·have c:=Ab (a.parts (by have:=d.out;omega) (by have:=g.out;omega) h);have D:(cmpS xs[k] ys[k] != 0)=true:=by rw[bne_iff_ne];exact h
     generalize cmpS xs[k] ys[k]=r at *;generalize (⟨xs[k].toArray⟩:ByteArray)=x at *;generalize (⟨ys[k].toArray⟩:ByteArray)=y at *;clear a h1 f h l o;go_wp2_with (go_at_call 205;refine(j _).mono ?_;rintro e w ⟨rfl,rfl⟩)
     go_ret;exact⟨Co c.out,rfl⟩
   ·have c:=Ab (a.more (by have:=d.out;omega) (by have:=g.out;omega));clear a h1 f;go_wp2;go_ret;exact⟨Co c.out,rfl⟩
  ·obtain rfl:k=n:=by omega
   by_cases E:k<m
   ·have c:=Ab (Dh.less (d.out▸a) (by have:=d.out;have:=g.out;omega));clear a h1 f;go_wp2;go_ret;exact⟨Co c.out,rfl⟩
   ·have c:=Ab (Dh.end (d.out▸a) (by have:=d.out;have:=g.out;omega));clear a h1 f;go_wp2;go_ret;exact⟨Co c.out,rfl⟩
variable {cs:Array Value}{B:Nat}
theorem Cd.place{D T:List AL}{r:AL}{key:ByteArray}(h:Cd (D++r::T) key D.length)(a:(r.key.toList==key.toList)=true):(D.length:Int)=placeI ((D++r::T).map AL.I) key:=by
 unfold placeI;unfold Cd at h;have e:((D++r::T).map AL.I).findIdx? (fun p=>p.1.toList==key.toList)=aC D.length:=by
  refine List.findIdx?_eq_some_iff_getElem.2 ⟨by simp,by simpa [AL.I] using a,fun j b=>?_⟩;rw[aY (aN _),aQ]at h;have:=h D[j] (List.getElem_mem _);simp only[bP];rw[List.getElem_append_left b];simpa [AL.I] using this
 rw[e]
theorem Cd.no_place{L:List AL}{key:ByteArray}(h:Cd L key L.length):(-1:Int)=placeI (L.map AL.I) key:=by
 unfold placeI;rw[bU.2];intro p a;unfold Cd at h;rw[aQ]at h;obtain⟨r,b,rfl⟩:=bJ.1 a;exact h r b
theorem AH{T:TypeId}(j:Nat):(w.alloc (aG cs T)).cell? ⟨w.heap.size,j,aE⟩=cs[j]?:=by
 unfold bN;rw[Ai];rfl
theorem WV(rk key:ByteArray)(va b:Value)(many:Bool)(g:Nat)(w:World)(i:∃a n c,va=aB a n c)(j:∃a n c,b=aB a n c)(d:w.cell? ⟨g,0,aE⟩=aC (aA key)):Calls prog 204 #[bS #[aA rk,va,.bool many,b],bH (aC ⟨g,0,aE⟩)] w fun e w'=>e=aF (.bool (rk.toList==key.toList))/\AW w w':=by
 obtain⟨a,n,c,rfl⟩:=i;obtain⟨a',n',f,rfl⟩:=j;have h:=(AW.refl w).alloc (aG #[aA rk,aB a n c,.bool many,aB a' n' f] 54);have k:=aD w _ d;have l:(w.alloc (aG #[aA rk,aB a n c,.bool many,aB a' n' f] 54)).cell? ⟨g,0,aE⟩=aC (aA key):=(h.1.cell k).trans d;go_enter func204,ntmps204;go_wp2;go_ret;exact⟨rfl,h⟩
def DA(w:World)(v:Value)(L:List AL):Prop:=Am w v L.length 4 (L.flatMap AL.cells)/\∀r∈L,(∃a n c,r.va=aB a n c)/\∃a n c,r.vd=aB a n c
theorem AL.len(x:AL):x.cells.length=4:=rfl
theorem DA.V{L:List AL}(h:DA w v L)(a:Below w.heap.size w w'):DA w' v L:=⟨h.1.V a,h.2⟩
theorem Bh.rin{L:List AL}(h:Bh B w v L):DA w v L:=by
 refine⟨AF (Ay.head h),fun r b=>?_⟩;obtain⟨D,T,rfl⟩:=b6 b;obtain⟨a,c,d,_⟩:=Al h.rm.args;obtain⟨a',e,f,_⟩:=Al h.rm.defs;exact⟨⟨a,_,c,d⟩,⟨a',_,e,f⟩⟩
theorem Am.rule{cap:Nat}{D T:List AL}{x:AL}(h:Am w (aB ao m cap) n 4 ((D++x::T).flatMap AL.cells)):∃b off,ao=aC ⟨b,off,aE⟩/\w.cell? ⟨b,off+D.length*4,aE⟩=aC (aA x.key)/\w.cell? ⟨b,off+D.length*4+1,aE⟩=aC x.va/\w.cell? ⟨b,off+D.length*4+2,aE⟩=aC (.bool x.many)/\w.cell? ⟨b,off+D.length*4+3,aE⟩=aC x.vd:=by
 have c:0<n:=by have:=h.1;rw[Bs _ 4 AL.len]at this;simp at this;omega
 obtain⟨b,off,d,a⟩:=h.at c;refine⟨b,off,d,?_,?_,?_,?_⟩
 ·have:=a (D.length*4+0) (aA x.key) (by rw[C5 _ 4 AL.len _ _ _ 0 (by decide)];rfl);simpa using this
 ·have:=a (D.length*4+1) x.va (by rw[C5 _ 4 AL.len _ _ _ 1 (by decide)];rfl);rw[<-aX]at this;exact this
 ·have:=a (D.length*4+2) (.bool x.many) (by rw[C5 _ 4 AL.len _ _ _ 2 (by decide)];rfl);rw[<-aX]at this;exact this
 ·have:=a (D.length*4+3) x.vd (by rw[C5 _ 4 AL.len _ _ _ 3 (by decide)];rfl);rw[<-aX]at this;exact this
theorem NJ{L:List AL}(key:ByteArray)(g:Nat)(c:DA w v L)(y:L.length<=12)(k:w.cell? ⟨g,0,aE⟩=aC (aA key)):Calls prog 203 #[v,.func (.func 204) #[] #[bH (aC ⟨g,0,aE⟩)]] w fun e w'=>e=aF (.int .i64 (placeI (L.map AL.I) key))/\AW w w':=by
 obtain⟨ao,z,rfl⟩:=c.1.ad;generalize s:L.length=n at *;go_enter func203,ntmps203;go_wp2;go_loopw [8] (fun i wr=>∃j:Nat,j<=n/\i=.int .i64 (j:Int)/\AW w wr/\Cd L key j) (fun i _=>n-(intOf i).toNat)
 case atStart=>exact⟨0,by omega,rfl,AW.refl _,Cd.zero _ _⟩
 case round =>
  obtain⟨j,A,rfl,d,a⟩:=hrel;by_cases B:j<n
  ·obtain⟨D,r,T,rfl,t⟩:=AC L j (by omega);have l:=c.V d.1;obtain⟨b,off,rfl,c0,u,c2,c3⟩:=l.1.rule;have f:=l.2 r (by simp);have p:wr.cell? ⟨g,0,aE⟩=aC (aA key):=(d.1.cell (aD w _ k)).trans k;obtain⟨rk,va,ns,many,x,ds⟩:=r;simp only at c0 u c2 c3 f;subst t;have m:=WV rk key va x many g wr f.1 f.2 p;cases o:(rk.toList==key.toList)
   ·have h:=a.succ o;rw[o]at m;clear a c l k p f;go_wp2_with (go_at_call 204;refine m.mono ?_;rintro e w1 ⟨rfl,q⟩)
    go_roundw;case rel=>exact⟨D.length+1,by omega,by go_num,d.trans q,h⟩
    case measure=>simp[intOf];omega
   ·have h:=Ab (a.place o);rw[o]at m;clear a c l k p f;go_wp2_with (go_at_call 204;refine m.mono ?_;rintro e w1 ⟨rfl,q⟩)
    go_ret;exact⟨Co h.out,d.trans q⟩
  ·obtain rfl:j=n:=by omega
   have h:=Ab (Cd.no_place (s▸a));clear a c;go_wp2;go_ret;exact⟨Co h.out,d⟩
theorem Po{L:List AL}(key:ByteArray)(a:DA w v L)(c:L.length<=12):Calls prog 149 #[v,aA key] w fun e w'=>e=aF (.int .i64 (placeI (L.map AL.I) key))/\AW w w':=by
 have b:=(AW.refl w).alloc (aG #[aA key] 9);have d:=NJ key w.heap.size (a.V b.1) c (AH 0);clear a;go_enter func149,ntmps149;go_wp2_with (go_at_call 203;refine d.mono ?_;rintro e w1 ⟨rfl,f⟩)
 go_ret;exact⟨rfl,b.trans f⟩
variable {W0 W W1:World}{g h:Nat}{va vb:Value}{L:List AL}
def blockCmp(a b c d:ByteArray):Int:=orI (DP a.toList c.toList) (DP b.toList d.toList)
def lineCmp(R:List Plain)(a b:PLine):Int:=orI (Aa8 (placeI R a.key) (placeI R b.key)) (DP a.ws b.ws)
theorem Cc(a b:PBlock):blockCmp a.aa a.name b.aa b.name<0↔blockLt a b=true:=by
 unfold blockCmp orI;rw[Ch];by_cases h:DP a.aa.toList b.aa.toList=0
 ·rw[if_pos h,Lo];rw[EL]at h;rw[h];constructor
  ·exact fun k=>.inr ⟨rfl,k⟩
  ·rintro(k|⟨_,k⟩)
   ·exact absurd k (Fp.irr _)
   ·exact k
 ·rw[if_neg h,Lo];rw[EL]at h;constructor
  ·exact fun k=>.inl k
  ·rintro(k|⟨k,_⟩)
   ·exact k
   ·exact absurd k h
theorem EY(R:List Plain)(a b:PLine):lineCmp R a b<0↔lineLt R a b=true:=by
 unfold lineCmp orI Aa8;rw[CJ];by_cases h:placeI R a.key<placeI R b.key
 ·rw[if_pos h,if_neg (by decide)];exact⟨fun _=>.inl h,fun _=>by decide⟩
 ·rw[if_neg h];by_cases k:placeI R b.key<placeI R a.key
  ·rw[if_pos k,if_neg (by decide)];constructor
   ·intro q;omega
   ·rintro(q|⟨q,_⟩) <;> omega
  ·rw[if_neg k,if_pos rfl,Lo];constructor
   ·exact fun q=>.inr ⟨by omega,q⟩
   ·rintro(q|⟨_,q⟩)
    ·omega
    ·exact q
theorem Ct{ds:Array Value}{T U:TypeId}:(∀j:Nat,((w.alloc (aG cs T)).alloc (aG ds U)).cell? ⟨w.heap.size,j,aE⟩=cs[j]?)/\∀j:Nat,((w.alloc (aG cs T)).alloc (aG ds U)).cell? ⟨w.heap.size+1,j,aE⟩=ds[j]?:=by
 constructor
 ·intro j;unfold bN;rw[Cs _ _ _ (by simp),Ai];rfl
 ·intro j;unfold bN;have:=Ai (w.alloc (aG cs T)) (aG ds U);simp only[World.size_alloc]at this;rw[this];rfl
theorem Db(c d f h:ByteArray)(j lb ca cb:Nat)(k l:Option Addr)(w:World):Calls prog 51 #[bS #[aA c,aA d,aB k j ca],bS #[aA f,aA h,aB l lb cb]] w fun e w'=>e=aF (.int .i64 (blockCmp c d f h))/\AW w w':=by
 have m:=((AW.refl w).alloc (aG #[aA c,aA d,aB k j ca] 46)).alloc (aG #[aA f,aA h,aB l lb cb] 46);have i:=Ct (w:=w) (cs:=#[aA c,aA d,aB k j ca]) (ds:=#[aA f,aA h,aB l lb cb]) (T:=46) (U:=46);have c0:=i.1 0;have n:=i.1 1;have o:=i.2 0;have p:=i.2 1;simp only[aK,aJ,aL]at c0 n o p;clear i;have q:=fun a b W=>Mj a b W
 have r:=fun(x y:Int) (W:World)=>Kb x y W.heap.size (W.alloc (aG #[.int .i64 x,.int .i64 y] 3)).drew (AH (w:=W) 0) (AH (w:=W) 1)
 go_enter func51,ntmps51;go_wp2;generalize (w.alloc (aG #[aA c,aA d,aB k j ca] 46)).alloc (aG #[aA f,aA h,aB l lb cb] 46)=W at *;generalize w.heap.size=g at *
 go_region_held3 (fun W'=>W'.cell? ⟨g,0,aE⟩=aC (aA c)/\W'.cell? ⟨g,1,aE⟩=aC (aA d)/\W'.cell? ⟨g+1,0,aE⟩=aC (aA f)/\W'.cell? ⟨g+1,1,aE⟩=aC (aA h)) (go_keep)
  (first|(go_at_call 116;refine(q _ _ _).mono ?_;rintro e s ⟨rfl,rfl⟩)|(go_at_call 115;refine(r _ _ _).mono ?_;rintro e s ⟨rfl,rfl⟩))
 all_goals
  go_wp2;go_ret;exact⟨rfl,(m.alloc _).drewN 1⟩
theorem Jq{c d:ByteArray}(i:AW W0 W/\W.cell? ⟨g,0,aE⟩=aC v/\W.cell? ⟨h,0,aE⟩=aC (aA c)/\W.cell? ⟨h,1,aE⟩=aC va/\W.cell? ⟨k,0,aE⟩=aC (aA d)/\W.cell? ⟨k,1,aE⟩=aC vb)(e:AW W W1):
  AW W0 W1/\W1.cell? ⟨g,0,aE⟩=aC v/\W1.cell? ⟨h,0,aE⟩=aC (aA c)/\W1.cell? ⟨h,1,aE⟩=aC va/\W1.cell? ⟨k,0,aE⟩=aC (aA d)/\W1.cell? ⟨k,1,aE⟩=aC vb:=by
 obtain⟨j,h1,l,m,n,o⟩:=i;have b:∀ {a:Addr} {u:Value},W.cell? a=aC u->W1.cell? a=aC u:=fun f=>(e.1.cell (aD W _ f)).trans f
 exact⟨j.trans e,b h1,b l,b m,b n,b o⟩
theorem AW.drew1(w:World):AW w w.drew:=(AW.refl w).drewN 1
theorem Iq(a b:PLine)(g:Nat)(q:DA w v L)(K:L.length<=12)(r:w.cell? ⟨g,0,aE⟩=aC v)(s:Am w va a.ws.length 1 (strs a.ws))(t:Am w vb b.ws.length 1 (strs b.ws))(C:a.ws.length<=1048576)(lb:b.ws.length<=1048576):Calls prog 147 #[bS #[aA a.key,va],bS #[aA b.key,vb],bH (aC ⟨g,0,aE⟩)] w fun e w'=>e=aF (.int .i64 (lineCmp (L.map AL.I) a b))/\AW w w':=by
 obtain⟨c,ca,rfl⟩:=s.ad;obtain⟨d,cb,rfl⟩:=t.ad;obtain⟨j,k,rfl⟩:=q.1.ad;generalize D:a.ws.length=f at *;generalize E:b.ws.length=i at *;generalize M:L.length=l at *;have m:=((AW.refl w).alloc (aG #[aA a.key,aB c f ca] 115)).alloc (aG #[aA b.key,aB d i cb] 115);have n:=Ct (w:=w) (cs:=#[aA a.key,aB c f ca]) (ds:=#[aA b.key,aB d i cb]) (T:=115) (U:=115);have c0:=n.1 0;have u:=n.1 1;have z:=n.2 0;have A:=n.2 1;simp only[aK,aJ,aL]at c0 u z A;clear n;have F:=q.V m.1;have G:=s.V m.1;have H:=t.V m.1;have I:=(m.1.cell (aD w _ r)).trans r;have N:=fun(x y:Int) (W:World)=>Kb x y W.heap.size (W.alloc (aG #[.int .i64 x,.int .i64 y] 3)).drew (AH (w:=W) 0) (AH (w:=W) 1)
 have O:=fun(x y:Int) (W:World)=>Kb x y W.heap.size (W.alloc (aG #[.int .i64 x,.int .i64 y] 3)) (AH (w:=W) 0) (AH (w:=W) 1)
 have P:=fun(x y:Int) (W:World)=>Mk x y W
 unfold lineCmp;clear q s t r;go_enter func147,ntmps147;go_wp2;generalize (w.alloc (aG #[aA a.key,aB c f ca] 115)).alloc (aG #[aA b.key,aB d i cb] 115)=W at *;generalize w.heap.size=h at *
 have Q:∀(key:ByteArray) (W1:World),(AW W W1/\W1.cell? ⟨g,0,aE⟩=aC (aB j l k)/\W1.cell? ⟨h,0,aE⟩=aC (aA a.key)/\W1.cell? ⟨h,1,aE⟩=aC (aB c f ca)/\W1.cell? ⟨h+1,0,aE⟩=aC (aA b.key)/\W1.cell? ⟨h+1,1,aE⟩=aC (aB d i cb))->Calls prog 149 #[aB j l k,aA key] W1 fun e w'=>e=aF (.int .i64 (placeI (L.map AL.I) key))/\(AW W w'/\w'.cell? ⟨g,0,aE⟩=aC (aB j l k)/\w'.cell? ⟨h,0,aE⟩=aC (aA a.key)/\w'.cell? ⟨h,1,aE⟩=aC (aB c f ca)/\w'.cell? ⟨h+1,0,aE⟩=aC (aA b.key)/\w'.cell? ⟨h+1,1,aE⟩=aC (aB d i cb)) :=
  fun key W1 o=>(Po key (F.V o.1.1) (by omega)).mono fun e w' ⟨R,B⟩=>⟨R,Jq o B⟩
 have S:∀(W1:World),(AW W W1/\W1.cell? ⟨g,0,aE⟩=aC (aB j l k)/\W1.cell? ⟨h,0,aE⟩=aC (aA a.key)/\W1.cell? ⟨h,1,aE⟩=aC (aB c f ca)/\W1.cell? ⟨h+1,0,aE⟩=aC (aA b.key)/\W1.cell? ⟨h+1,1,aE⟩=aC (aB d i cb))->Calls prog 150 #[aB c f ca,aB d i cb] W1 fun e w'=>e=aF (.int .i64 (DP a.ws b.ws))/\w'=W1 :=
  fun W1 o=>Jp (D.symm▸G.V o.1.1) (E.symm▸H.V o.1.1) C lb
 have V:AW W W/\W.cell? ⟨g,0,aE⟩=aC (aB j l k)/\W.cell? ⟨h,0,aE⟩=aC (aA a.key)/\W.cell? ⟨h,1,aE⟩=aC (aB c f ca)/\W.cell? ⟨h+1,0,aE⟩=aC (aA b.key)/\W.cell? ⟨h+1,1,aE⟩=aC (aB d i cb):=⟨AW.refl _,I,c0,u,z,A⟩;clear F G H D E M C lb K I c0 u z A
 go_region_held3 (fun W'=>AW W W'/\W'.cell? ⟨g,0,aE⟩=aC (aB j l k)/\W'.cell? ⟨h,0,aE⟩=aC (aA a.key)/\W'.cell? ⟨h,1,aE⟩=aC (aB c f ca)/\W'.cell? ⟨h+1,0,aE⟩=aC (aA b.key)/\W'.cell? ⟨h+1,1,aE⟩=aC (aB d i cb))
  (first|assumption|exact Jq (by assumption) (AW.drew1 _)|exact Jq (by assumption) ((AW.refl _).alloc _)|exact Jq (by assumption) (((AW.refl _).alloc _).drewN 1))
  (first|(go_at_call 149;refine(Q _ _ (by assumption)).mono ?_;rintro e p ⟨rfl,X⟩)|(go_at_call 148;refine(P _ _ _).mono ?_;rintro e p ⟨rfl,rfl⟩)|(go_at_call 150;refine(S _ (by assumption)).mono ?_;rintro e p ⟨rfl,rfl⟩)|(go_at_call 115;refine(N _ _ _).mono ?_;rintro e p ⟨rfl,rfl⟩)|(go_at_call 115;refine(O _ _ _).mono ?_;rintro e p ⟨rfl,rfl⟩))
 all_goals
  rename_i J;have B:=m.trans J.1;clear J;go_wp2;go_ret;exact⟨rfl,B⟩
variable {D T bs:List BAt}{y:BAt}{a1 a2 a3 a4:Addr}{v1 v2 v3 v4 vr:Value}{ls:List LAt}
def Af8{α:Type}(c:α->α->Bool)(ls:List α):Prop:=∀i a b,ls[i]?=aC a->ls[i+1]?=aC b->c b a=false
def Cv{α:Type}(c:α->α->Bool)(ls:List α)(k:Nat):Prop:=∀i,k<=i->∀a b,ls[i]?=aC a->ls[i+1]?=aC b->c b a=false
open Classical in
noncomputable def EE{α:Type}(a:α->α->Bool)(ls:List α):Bool:=decide (Af8 a ls)
theorem Cv.last(c:α->α->Bool)(ls:List α)(k:Nat)(h:ls.length<=k+1):Cv c ls k:=by
 intro i e a b _ d;have:=(aH.1 d).1;omega
theorem Cv.down{c:α->α->Bool}{ls:List α}{a b:α}(h:Cv c ls (k+1))(g:ls[k]?=aC a)(j:ls[k+1]?=aC b)(l:c b a=false):Cv c ls k:=by
 intro i m x y d f;by_cases e:i=k
 ·subst e;rw[g]at d;rw[j]at f;cases d;cases f;exact l
 ·exact h i (by omega) x y d f
open Classical in
theorem Cv.all{c:α->α->Bool}{ls:List α}(h:Cv c ls 0):true=EE c ls:=by
 unfold EE;rw[decide_eq_true];exact fun i a b d e=>h i (cn _) a b d e
open Classical in
theorem VO{c:α->α->Bool}{ls:List α}{a b:α}(e:ls[k]?=aC a)(f:ls[k+1]?=aC b)(d:c b a=true):false=EE c ls:=by
 unfold EE;rw[decide_eq_false];intro h;rw[h k a b e f]at d;cases d
theorem Pp(L:List α)(k:Nat)(h:k+1<L.length):∃D r s T,L=D++r::s::T/\D.length=k:=by
 obtain⟨D,r,T,rfl,a⟩:=AC L k (by omega)
 match T,h with
 | [],h=>simp at h;omega
 | s::T,_=>exact⟨D,r,s,T,rfl,a⟩
theorem YA(D T:List α)(r s:α):(D++r::s::T)[D.length]?=aC r/\(D++r::s::T)[D.length+1]?=aC s:=by
 constructor
 ·simp
 ·rw[bT (by omega)];simp
theorem Am.block2{cap:Nat}{x:BAt}(h:Am w (aB ao m cap) n 3 ((D++x::y::T).flatMap BAt.cells)):∃b off,ao=aC ⟨b,off,aE⟩/\(w.cell? ⟨b,off+D.length*3,aE⟩=aC (aA x.aa)/\w.cell? ⟨b,off+D.length*3+1,aE⟩=aC (aA x.name)/\w.cell? ⟨b,off+D.length*3+2,aE⟩=aC x.v)/\w.cell? ⟨b,off+(D.length+1)*3,aE⟩=aC (aA y.aa)/\w.cell? ⟨b,off+(D.length+1)*3+1,aE⟩=aC (aA y.name)/\w.cell? ⟨b,off+(D.length+1)*3+2,aE⟩=aC y.v:=by
 obtain⟨b,off,rfl,h1⟩:=h.block;have c:Am w (aB (aC ⟨b,off,aE⟩) m cap) n 3 (((D++[x])++y::T).flatMap BAt.cells):=by rw[b7];exact h
 obtain⟨b',d,e,a⟩:=c.block;cases e
 rw[bG,bY]at a;exact⟨b,off,rfl,h1,a⟩
theorem Ft{a5 c:Addr}{v5 d:Value}(g:AW W0 W/\W.cell? a1=aC v1/\W.cell? a2=aC v2/\W.cell? a3=aC v3/\W.cell? a4=aC v4/\W.cell? a5=aC v5/\W.cell? c=aC d)(e:AW W W1):
  AW W0 W1/\W1.cell? a1=aC v1/\W1.cell? a2=aC v2/\W1.cell? a3=aC v3/\W1.cell? a4=aC v4/\W1.cell? a5=aC v5/\W1.cell? c=aC d:=by
 obtain⟨h,h1,i,j,k,l,m⟩:=g;have b:∀ {a:Addr} {u:Value},W.cell? a=aC u->W1.cell? a=aC u:=fun f=>(e.1.cell (aD W _ f)).trans f
 exact⟨h.trans e,b h1,b i,b j,b k,b l,b m⟩
theorem K3{c:Int}{B:Bool}(h:c<0↔B=true)(a:B=true):c<0:=h.2 a
theorem Jr{c:Int}{B:Bool}(h:c<0↔B=true)(a:B=false):¬c<0:=fun q=>by rw[h.1 q]at a;cases a
theorem Kc(b:Au w v bs)(Y:bs.length<=1048576):Calls prog 68 #[v,.func (.func 51) #[] #[]] w fun e w'=>e=aF (.bool (EE blockLt (bs.map BAt.I)))/\AW w w':=by
 obtain⟨ao,Z,rfl⟩:=b.1.ad;generalize L:bs.length=n at *;have t:=Ab L;generalize M:bs.map BAt.I=j;have u:=Ab M;clear L M;go_enter func68,ntmps68;go_wp2;go_loopw [5] (fun i wr=>∃a:Int,-1<=a/\a<(n:Int)/\i=.int .i64 a/\AW w wr/\Cv blockLt j a.toNat) (fun i _=>(intOf i+1).toNat)
 case atStart=>exact⟨(n:Int)-1,by omega,by omega,by go_num,AW.refl _,Cv.last _ _ _ (by have:=t.out;rw[<-u.out];simp;omega)⟩
 case round =>
  obtain⟨a,aa,ab,rfl,x,c⟩:=hrel;by_cases ac:0<a
  ·obtain⟨k,rfl⟩:∃k:Nat,a=(k:Int)+1:=⟨(a-1).toNat,by omega⟩;have N:k+1<bs.length:=by have:=t.out;omega
   obtain⟨D,r,s,T,rfl,y⟩:=Pp bs k N;obtain⟨g,off,rfl,⟨z,c2,c3⟩,A,B,d3⟩:=(b.V x.1).1.block2;obtain⟨a1,o,O⟩:=(b.2 r (by simp)).1.ad;obtain⟨a2,p,P⟩:=(b.2 s (by simp)).1.ad;have d:=YA (D.map BAt.I) (T.map BAt.I) r.I s.I;rw[show D.map BAt.I++r.I::s.I::T.map BAt.I=j from by rw[<-u.out];simp,aP,y]at d;rw[y]at z c2 c3 A B d3;have l:=Cc s.I r.I;rw[O]at c3;rw[P]at d3;have q:=fun W=>Db s.aa s.name r.aa r.name s.ls.length r.ls.length p o a2 a1 W
   rw[show blockCmp s.I.aa s.I.name r.I.aa r.I.name=blockCmp s.aa s.name r.aa r.name from rfl]at l;rw[show ((k:Int)+1).toNat=k+1 from by omega]at c;have Q:AW w wr/\wr.cell? ⟨g,off+k*3,aE⟩=aC (aA r.aa)/\wr.cell? ⟨g,off+k*3+1,aE⟩=aC (aA r.name)/\wr.cell? ⟨g,off+k*3+2,aE⟩=aC (aB a1 r.ls.length o)/\wr.cell? ⟨g,off+(k+1)*3,aE⟩=aC (aA s.aa)/\wr.cell? ⟨g,off+(k+1)*3+1,aE⟩=aC (aA s.name)/\wr.cell? ⟨g,off+(k+1)*3+2,aE⟩=aC (aB a2 s.ls.length p):=⟨x,z,c2,c3,A,B,d3⟩;have C:blockLt s.I r.I=false->Cv blockLt j k:=fun h=>c.down d.1 d.2 h
   have E:blockLt s.I r.I=true->false=EE blockLt j:=fun h=>VO d.1 d.2 h
   clear d c b N z c2 c3 A B d3 O P t u y;generalize r.aa=rk at *;generalize r.name=F at *;generalize r.ls.length=R at *;generalize s.aa=G at *;generalize s.name=H at *;generalize s.ls.length=ns at *;generalize blockCmp G H rk F=S at *;have i0:(0:Int)<=(k:Int):=by omega
   have ad:(k:Int)<(n:Int):=by omega
   have i2:(0:Int)<=(k:Int)+1:=by omega
   have i3:(k:Int)+1<(n:Int):=by omega
   have i4:bW.wrap (k:Int)=(k:Int):=by rw[bI];omega
   have i5:((k:Int)+1).toNat=k+1:=by omega
   cases f:blockLt s.I r.I
   ·have I:=C f;have U:¬S<0:=Jr l f;clear C E l f;go_wp2
    go_region_held3 (fun W'=>AW w W'/\W'.cell? ⟨g,off+k*3,aE⟩=aC (aA rk)/\W'.cell? ⟨g,off+k*3+1,aE⟩=aC (aA F)/\W'.cell? ⟨g,off+k*3+2,aE⟩=aC (aB a1 R o)/\W'.cell? ⟨g,off+(k+1)*3,aE⟩=aC (aA G)/\W'.cell? ⟨g,off+(k+1)*3+1,aE⟩=aC (aA H)/\W'.cell? ⟨g,off+(k+1)*3+2,aE⟩=aC (aB a2 ns p))
     (first|assumption|exact Ft (by assumption) (AW.drew1 _)|exact Ft (by assumption) (by assumption))
     (first|(go_at_call 51;refine(q _).mono ?_;rintro e V ⟨rfl,J⟩))
    all_goals
     rename_i m;have K:=m.1;clear m Q J q;go_wp2;go_roundw;case rel=>exact⟨(k:Int),by omega,by omega,by go_num,K,I⟩
     case measure=>simp[intOf];omega
   ·have I:=Ab (E f);have U:S<0:=K3 l f;clear C E l f;go_wp2
    go_region_held3 (fun W'=>AW w W'/\W'.cell? ⟨g,off+k*3,aE⟩=aC (aA rk)/\W'.cell? ⟨g,off+k*3+1,aE⟩=aC (aA F)/\W'.cell? ⟨g,off+k*3+2,aE⟩=aC (aB a1 R o)/\W'.cell? ⟨g,off+(k+1)*3,aE⟩=aC (aA G)/\W'.cell? ⟨g,off+(k+1)*3+1,aE⟩=aC (aA H)/\W'.cell? ⟨g,off+(k+1)*3+2,aE⟩=aC (aB a2 ns p))
     (first|assumption|exact Ft (by assumption) (AW.drew1 _)|exact Ft (by assumption) (by assumption))
     (first|(go_at_call 51;refine(q _).mono ?_;rintro e V ⟨rfl,J⟩))
    all_goals
     rename_i m;have K:=m.1;clear m Q J q;go_wp2;go_ret;exact⟨As I.out,K⟩
  ·have X:=Ab (show true=EE blockLt j from Cv.all (by rw[show a.toNat=0 from by omega]at c;exact c));clear c b;go_wp2;go_ret;exact⟨As X.out,x⟩
theorem Am.line2{cap:Nat}{D T:List LAt}{x y:LAt}(h:Am w (aB ao m cap) n 2 ((D++x::y::T).flatMap LAt.cells)):∃b off,ao=aC ⟨b,off,aE⟩/\(w.cell? ⟨b,off+D.length*2,aE⟩=aC (aA x.key)/\w.cell? ⟨b,off+D.length*2+1,aE⟩=aC x.v)/\w.cell? ⟨b,off+(D.length+1)*2,aE⟩=aC (aA y.key)/\w.cell? ⟨b,off+(D.length+1)*2+1,aE⟩=aC y.v:=by
 obtain⟨b,off,rfl,h1⟩:=h.ai;have c:Am w (aB (aC ⟨b,off,aE⟩) m cap) n 2 (((D++[x])++y::T).flatMap LAt.cells):=by rw[b7];exact h
 obtain⟨b',d,e,a⟩:=c.ai;cases e
 rw[bG,bY]at a;exact⟨b,off,rfl,h1,a⟩
theorem EH(e:AW W0 W/\W.cell? a1=aC v1/\W.cell? a2=aC v2/\W.cell? a3=aC v3/\W.cell? a4=aC v4)(c:AW W W1):
  AW W0 W1/\W1.cell? a1=aC v1/\W1.cell? a2=aC v2/\W1.cell? a3=aC v3/\W1.cell? a4=aC v4:=by
 obtain⟨f,h1,g,h,i⟩:=e;have b:∀ {a:Addr} {u:Value},W.cell? a=aC u->W1.cell? a=aC u:=fun d=>(c.1.cell (aD W _ d)).trans d
 exact⟨f.trans c,b h1,b g,b h,b i⟩
theorem KZ{RL:List AL}(m:Nat)(b:Ap w v ls)(ad:ls.length<=1048576)(o:∀x∈ls,x.ws.length<=1048576)(B:DA w vr RL)(Q:RL.length<=12)(p:w.cell? ⟨m,0,aE⟩=aC vr):Calls prog 136 #[v,.func (.func 147) #[] #[bH (aC ⟨m,0,aE⟩)]] w fun e w'=>e=aF (.bool (EE (lineLt (RL.map AL.I)) (ls.map LAt.I)))/\AW w w':=by
 obtain⟨ao,ae,rfl⟩:=b.1.ad;generalize R:ls.length=n at *;have C:=Ab R;generalize S:ls.map LAt.I=j;have E:=Ab S;clear R S;go_enter func136,ntmps136;go_wp2;go_loopw [5] (fun i wr=>∃a:Int,-1<=a/\a<(n:Int)/\i=.int .i64 a/\AW w wr/\Cv (lineLt (RL.map AL.I)) j a.toNat) (fun i _=>(intOf i+1).toNat)
 case atStart=>exact⟨(n:Int)-1,by omega,by omega,by go_num,AW.refl _,Cv.last _ _ _ (by have:=C.out;rw[<-E.out];simp;omega)⟩
 case round =>
  obtain⟨a,af,ag,rfl,F,c⟩:=hrel;by_cases ah:0<a
  ·obtain⟨k,rfl⟩:∃k:Nat,a=(k:Int)+1:=⟨(a-1).toNat,by omega⟩;have U:k+1<ls.length:=by have:=C.out;omega
   obtain⟨D,r,s,T,rfl,G⟩:=Pp ls k U;obtain⟨g,off,rfl,⟨H,c2⟩,I,q⟩:=(b.V F.1).1.line2;obtain⟨a1,t,J⟩:=(b.2 r (by simp)).ad;obtain⟨a2,u,K⟩:=(b.2 s (by simp)).ad;have d:=YA (D.map LAt.I) (T.map LAt.I) r.I s.I;rw[show D.map LAt.I++r.I::s.I::T.map LAt.I=j from by rw[<-E.out];simp,aP,G]at d;rw[G]at H c2 I q;have y:=EY (RL.map AL.I) s.I r.I;rw[J]at c2;rw[K]at q
   have z:∀W,AW w W->Calls prog 147 #[bS #[aA s.key,aB a2 s.ws.length u],bS #[aA r.key,aB a1 r.ws.length t],bH (aC ⟨m,0,aE⟩)] W fun e w'=>e=aF (.int .i64 (lineCmp (RL.map AL.I) s.I r.I))/\AW W w' :=
    fun W A=>Iq s.I r.I m (B.V A.1) Q ((A.1.cell (aD w _ p)).trans p) (K▸(b.2 s (by simp)).V A.1) (J▸(b.2 r (by simp)).V A.1) (o s (by simp)) (o r (by simp))
   rw[show ((k:Int)+1).toNat=k+1 from by omega]at c;have V:AW w wr/\wr.cell? ⟨g,off+k*2,aE⟩=aC (aA r.key)/\wr.cell? ⟨g,off+k*2+1,aE⟩=aC (aB a1 r.ws.length t)/\wr.cell? ⟨g,off+(k+1)*2,aE⟩=aC (aA s.key)/\wr.cell? ⟨g,off+(k+1)*2+1,aE⟩=aC (aB a2 s.ws.length u):=⟨F,H,c2,I,q⟩;have L:(lineLt (RL.map AL.I)) s.I r.I=false->Cv (lineLt (RL.map AL.I)) j k:=fun h=>c.down d.1 d.2 h
   have M:(lineLt (RL.map AL.I)) s.I r.I=true->false=EE (lineLt (RL.map AL.I)) j:=fun h=>VO d.1 d.2 h
   clear d c b U H c2 I q J K C E G B p o Q;generalize r.key=rk at *;generalize r.ws.length=X at *;generalize s.key=Y at *;generalize s.ws.length=ns at *;generalize lineCmp (RL.map AL.I) s.I r.I=Z at *;have i0:(0:Int)<=(k:Int):=by omega
   have ai:(k:Int)<(n:Int):=by omega
   have i2:(0:Int)<=(k:Int)+1:=by omega
   have i3:(k:Int)+1<(n:Int):=by omega
   have i4:bW.wrap (k:Int)=(k:Int):=by rw[bI];omega
   have i5:((k:Int)+1).toNat=k+1:=by omega
   cases f:(lineLt (RL.map AL.I)) s.I r.I
   ·have N:=L f;have aa:¬Z<0:=Jr y f;clear L M y f;go_wp2
    go_region_held3 (fun W'=>AW w W'/\W'.cell? ⟨g,off+k*2,aE⟩=aC (aA rk)/\W'.cell? ⟨g,off+k*2+1,aE⟩=aC (aB a1 X t)/\W'.cell? ⟨g,off+(k+1)*2,aE⟩=aC (aA Y)/\W'.cell? ⟨g,off+(k+1)*2+1,aE⟩=aC (aB a2 ns u))
     (first|assumption|exact EH (by assumption) (AW.drew1 _)|exact EH (by assumption) (by assumption))
     (first|(go_at_call 147;refine(z _ (bM (by assumption))).mono ?_;rintro e ab ⟨rfl,O⟩))
    all_goals
     rename_i l;have P:=l.1;clear l V O z;go_wp2;go_roundw;case rel=>exact⟨(k:Int),by omega,by omega,by go_num,P,N⟩
     case measure=>simp[intOf];omega
   ·have N:=Ab (M f);have aa:Z<0:=K3 y f;clear L M y f;go_wp2
    go_region_held3 (fun W'=>AW w W'/\W'.cell? ⟨g,off+k*2,aE⟩=aC (aA rk)/\W'.cell? ⟨g,off+k*2+1,aE⟩=aC (aB a1 X t)/\W'.cell? ⟨g,off+(k+1)*2,aE⟩=aC (aA Y)/\W'.cell? ⟨g,off+(k+1)*2+1,aE⟩=aC (aB a2 ns u))
     (first|assumption|exact EH (by assumption) (AW.drew1 _)|exact EH (by assumption) (by assumption))
     (first|(go_at_call 147;refine(z _ (bM (by assumption))).mono ?_;rintro e ab ⟨rfl,O⟩))
    all_goals
     rename_i l;have P:=l.1;clear l V O z;go_wp2;go_ret;exact⟨As N.out,P⟩
  ·have ac:=Ab (show true=EE (lineLt (RL.map AL.I)) j from Cv.all (by rw[show a.toNat=0 from by omega]at c;exact c));clear c b B p o;go_wp2;go_ret;exact⟨As ac.out,F⟩
variable {kind name:ByteArray}
def Ci(bs:List BAt)(kind name:ByteArray)(k:Nat):Prop:=∀b∈bs.take k,(b.aa.toList==kind.toList&&b.name.toList==name.toList)=false
theorem Ci.zero(bs:List BAt)(kind name:ByteArray):Ci bs kind name 0:=by simp[Ci]
theorem Ci.succ{r:BAt}(h:Ci (D++r::T) kind name D.length)(b:(r.aa.toList==kind.toList&&r.name.toList==name.toList)=false):Ci (D++r::T) kind name (D.length+1):=by
 unfold Ci at *;rw[aY (aN _),aQ]at h;rw[bO,aU (by omega),show D.length+1-D.length=1 from by omega];intro s a;simp only[bE,List.take_zero,bR,bF]at a;rcases a with a|rfl
 ·exact h s a
 ·exact b
theorem Mp{es:List PBlock}(h:(rulesOf kind).length=0):(3:Int)=headFault es kind name:=by unfold headFault;rw[if_pos h]
theorem Mq{es:List PBlock}(h:¬(rulesOf kind).length=0)(a:nameB name.data.toList=false):(4:Int)=headFault es kind name:=by unfold headFault;rw[if_neg h,if_pos a]
theorem La{es:List PBlock}(h:¬(rulesOf kind).length=0)(a:nameB name.data.toList=true){o:PBlock}(b:o∈es)(c:(o.aa.toList==kind.toList&&o.name.toList==name.toList)=true):(9:Int)=headFault es kind name:=by
 unfold headFault;rw[if_neg h,if_neg (by simp[a]),if_pos];rw[cd];exact⟨o,b,c⟩
theorem Ci.fault(h:¬(rulesOf kind).length=0)(c:nameB name.data.toList=true)(a:Ci bs kind name bs.length):(if 60<=bs.length then (10:Int) else 0)=headFault (bs.map BAt.I) kind name:=by
 unfold Ci at a;rw[aQ]at a;have d:(bs.map BAt.I).any (fun o=>o.aa.toList==kind.toList&&o.name.toList==name.toList)=false:=by
  rw[b8];intro o e;obtain⟨b,f,rfl⟩:=bJ.1 e;rw[show (b.I.aa.toList==kind.toList&&b.I.name.toList==name.toList)=false from a b f];decide
 unfold headFault
 symm
 rw[if_neg h,if_neg (by simp[c]),d,if_neg (by decide),aP]
theorem Ir(kind name:ByteArray)(f:Au w v bs)(ad:bs.length<=1048576)(U:name.size<=1048576):Calls prog 66 #[v,aA kind,aA name] w fun e w'=>e=aF (.int .i64 (headFault (bs.map BAt.I) kind name))/\Below w.heap.size w w':=by
 obtain⟨ao,ae,rfl⟩:=f.1.ad;generalize J:bs.map BAt.I=k;have K:=Ab J;generalize M:bs.length=n at *;have B:=Ab M;clear M J;have p:=CU kind w;have s:=fun W=>LQ name W U
 by_cases a:(rulesOf kind).length=0
 ·have C:=Ab (Mp (es:=k) (name:=name) a);generalize headFault k kind name=F at *;go_enter func66,ntmps66;go_wp2_with (go_at_call 29;refine p.mono ?_)
  rintro e w1 ⟨vr,L,rfl,c,d,t⟩;obtain⟨N,O,rfl,_⟩:=Al (show w1.ownsRow w.heap.size 54 4 vr L.length (L.flatMap AL.cells) from Ay.head d);have E:L.length=0:=by rw[<-c,aP]at a;exact a
  generalize L.length=m at *;subst E;clear p d c a f;go_wp2;go_ret;exact⟨Co C.out,t⟩
 have af:Hid (¬(rulesOf kind).length=0):=Ab a;cases q:nameB name.data.toList
 ·have C:=Ab (Mq (es:=k) a q);rw[q]at s;generalize headFault k kind name=F at *;go_enter func66,ntmps66;go_wp2_with (go_at_call 29;refine p.mono ?_)
  rintro e w1 ⟨vr,L,rfl,c,d,t⟩;obtain⟨N,O,rfl,_⟩:=Al (show w1.ownsRow w.heap.size 54 4 vr L.length (L.flatMap AL.cells) from Ay.head d);have E:¬L.length=0:=by rw[<-c,aP]at a;exact a
  generalize L.length=m at *;have V:((m:Int)==0)=false:=by rw[beq_eq_false_iff_ne];omega
  clear p d c a f;go_wp2_with (go_at_call 134;refine(s _).mono ?_;rintro e w ⟨rfl,rfl⟩)
  go_ret;exact⟨Co C.out,t⟩
 ·rw[q]at s;have z:=fun(h:Ci bs kind name bs.length)=>Ci.fault a q h
  have G:=fun(o:PBlock) (X:o∈k) (Y:(o.aa.toList==kind.toList&&o.name.toList==name.toList)=true)=>La a q X Y
  rw[K.out]at z;generalize headFault k kind name=F at *;go_enter func66,ntmps66;go_wp2_with (go_at_call 29;refine p.mono ?_)
  rintro e w1 ⟨vr,L,rfl,c,d,t⟩;obtain⟨N,O,rfl,_⟩:=Al (show w1.ownsRow w.heap.size 54 4 vr L.length (L.flatMap AL.cells) from Ay.head d);have E:¬L.length=0:=by rw[<-c,aP]at a;exact a
  generalize L.length=m at *;have V:((m:Int)==0)=false:=by rw[beq_eq_false_iff_ne];omega
  clear p d c a q;go_wp2_with (go_at_call 134;refine(s _).mono ?_;rintro e w1 ⟨rfl,rfl⟩)
  clear s;go_loopw [18] (fun i wr=>∃j:Nat,j<=n/\i=.int .i64 (j:Int)/\Below w.heap.size w wr/\Ci bs kind name j) (fun i _=>n-(intOf i).toNat)
  case atStart=>exact⟨0,by omega,rfl,t,Ci.zero _ _ _⟩
  case round =>
   obtain⟨j,ag,rfl,u,A⟩:=hrel;by_cases ah:j<n
   ·obtain⟨D,r,T,rfl,Z⟩:=AC bs j (by have:=B.out;omega);obtain⟨g,off,rfl,ai,c2,c3⟩:=(f.V u).1.block;obtain⟨a1,aa,ab⟩:=(f.2 r (by simp)).1.ad;have P:r.I∈k:=by rw[<-K.out];simp
    have x:=G r.I P;rw[show r.I.aa=r.aa from rfl,show r.I.name=r.name from rfl]at x;rw[ab]at c3;subst Z;have y:=fun h=>A.succ (r:=r) h
    generalize r.ls.length=ac at *;generalize r.aa=rk at *;generalize r.name=Q at *;clear A f z G P;have H:=u.alloc u.size (aG #[aA rk,aA Q,aB a1 ac aa] 46);cases I:(rk.toList==kind.toList)
    ·have b:=y (by rw[I];rfl);clear y x;go_wp2;go_roundw;case rel=>exact⟨D.length+1,by omega,by go_num,H,b⟩
     case measure=>simp[intOf];omega
    ·cases R:(Q.toList==name.toList)
     ·have b:=y (by rw[I,R];rfl);clear y x;go_wp2;go_roundw;case rel=>exact⟨D.length+1,by omega,by go_num,H,b⟩
      case measure=>simp[intOf];omega
     ·have b:=Ab (x (by rw[I,R];rfl));clear y x;go_wp2;go_ret;exact⟨Co b.out,H⟩
   ·obtain rfl:j=n:=by omega
    have l:=z (by rw[B.out];exact A);rw[B.out]at l;clear A f z G;by_cases S:60<=j
    ·rw[if_pos S]at l;have b:=Ab l;clear l;go_wp2;go_ret;exact⟨Co b.out,u⟩
    ·rw[if_neg S]at l;have b:=Ab l;clear l;go_wp2;go_ret;exact⟨Co b.out,u⟩
variable {many:Bool}{c:Nat}{R:List Plain}{es:List PLine}{vl:Value}
def Cp(xs ys:List (List UInt8))(k:Nat):Prop:=xs.take k=ys.take k
theorem Cp.zero(xs ys:List (List UInt8)):Cp xs ys 0:=by simp[Cp]
theorem Cp.succ{xs:List (List UInt8)}(h:Cp xs ys k)(h1:k<xs.length)(a:k<ys.length)(e:(xs[k]==ys[k])=true):Cp xs ys (k+1):=by
 unfold Cp at *;rw[aR h1,aR a,h,beq_iff_eq.1 e]
theorem YB{xs:List (List UInt8)}(h1:k<xs.length)(a:k<ys.length)(e:(xs[k]==ys[k])=false):false=decide (xs=ys):=by
 rw[decide_eq_false];intro h;subst h;simp at e
theorem Cp.all{xs:List (List UInt8)}(h:Cp xs ys xs.length)(a:xs.length=ys.length):true=decide (xs=ys):=by
 unfold Cp at h;rw[decide_eq_true];rw[aQ]at h;rw[h,a,aQ]
theorem GI{xs:List (List UInt8)}(h1:Am w (aB ao n ca) xs.length 1 (strs xs))(c:Am w (aB bo m cb) ys.length 1 (strs ys))(t:n<=1048576)(u:m<=1048576):Calls prog 127 #[aB ao n ca,aB bo m cb] w fun e w'=>e=aF (.bool (decide (xs=ys)))/\∃q,w'=w.drewN q:=by
 have f:=Ab (show n=xs.length by obtain⟨_,_,_,e,_⟩:=h1;cases e;rfl);have l:=Ab (show m=ys.length by obtain⟨_,_,_,e,_⟩:=c;cases e;rfl);by_cases r:n=m
 ·subst r;have s:((n:Int) != (n:Int))=false:=by simp
  go_enter func127,ntmps127;go_wp2;go_loopw [13] (fun i wr=>∃k q:Nat,k<=n/\i=.int .i64 (k:Int)/\wr=w.drewN q/\Cp xs ys k) (fun i _=>n-(intOf i).toNat)
  case atStart=>exact⟨0,0,by omega,rfl,rfl,Cp.zero _ _⟩
  case round =>
   obtain⟨k,q,v,rfl,rfl,d⟩:=hrel;by_cases z:k<n
   ·have o:k<xs.length:=by have:=f.out;omega
    have p:k<ys.length:=by have:=l.out;omega
    obtain⟨b,off,rfl,A⟩:=h1.word k o;obtain⟨B,C,rfl,c2⟩:=c.word k p;have g:(aW xs[k].toArray).toList=xs[k]:=by rw[aI]
    have h:(aW ys[k].toArray).toList=ys[k]:=by rw[aI]
    cases j:(xs[k]==ys[k])
    ·have a:=Ab (YB o p j);rw[<-g,<-h]at j;generalize (⟨xs[k].toArray⟩:ByteArray)=x at *;generalize (⟨ys[k].toArray⟩:ByteArray)=y at *;clear d h1 c g h;go_wp2;go_quiet (fail)
     go_wp2;go_ret;exact⟨As a.out,_,by first|rfl|exact aS _ _ _⟩
    ·have a:=d.succ o p j;rw[<-g,<-h]at j;generalize (⟨xs[k].toArray⟩:ByteArray)=x at *;generalize (⟨ys[k].toArray⟩:ByteArray)=y at *;clear d h1 c g h;go_wp2;go_quiet (fail)
     go_wp2;go_roundw;case rel=>exact⟨k+1,_,by omega,by go_num,by first|rfl|exact aS _ _ _,a⟩
     case measure=>simp[intOf];omega
   ·obtain rfl:k=n:=by omega
    have a:=Ab (Cp.all (f.out▸d) (f.out.symm.trans l.out));clear d h1 c;go_wp2;go_ret;exact⟨As a.out,q,rfl⟩
 ·have s:((n:Int) != (m:Int))=true:=by rw[bne_iff_ne];omega
  have a:=Ab (show false=decide (xs=ys) by rw[decide_eq_false];rintro rfl;exact r (f.out.trans l.out.symm));clear h1 c;go_enter func127,ntmps127;go_wp2;go_ret;exact⟨As a.out,0,rfl⟩
def Ej(many:Bool)(es:List LAt)(a:PLine)(k c:Nat):Prop:=c=keyN ((es.take k).map LAt.I) a.key/\∀o∈es.take k,(o.key.toList==a.key.toList&&(!many || decide (o.ws=a.ws)))=false
theorem Ej.zero(many:Bool)(es:List LAt)(a:PLine):Ej many es a 0 0:=⟨by simp[keyN],by simp⟩
theorem By(D T:List α)(r:α):(D++r::T).take (D.length+1)=D++[r]:=by
 rw[bO,aU (by omega),show D.length+1-D.length=1 from by omega];rfl
theorem Bk(D T:List α):(D++T).take D.length=D:=by
 rw[aY (aN _),aQ]
theorem Ej.other{D T:List LAt}{r:LAt}{a:PLine}(h:Ej many (D++r::T) a D.length c)(d:(r.key.toList==a.key.toList)=false):Ej many (D++r::T) a (D.length+1) c:=by
 obtain⟨h1,f⟩:=h;rw[Bk]at h1 f;refine⟨?_,?_⟩
 ·rw[By,ch,Dg,<-h1,b5,Ha,if_neg]
  ·rfl
  ·intro e;rw[show r.I.key=r.key from rfl]at e;rw[e]at d;simp at d
 ·rw[By];intro o b;rcases bR.1 b with b|b
  ·exact f o b
  ·rw[bF.1 b,d];rfl
theorem Ej.count{D T:List LAt}{r:LAt}{a:PLine}(h:Ej many (D++r::T) a D.length c)(d:(r.key.toList==a.key.toList)=true)(f:many=true)(g:decide (r.ws=a.ws)=false):Ej many (D++r::T) a (D.length+1) (c+1):=by
 obtain⟨h1,e⟩:=h;rw[Bk]at h1 e;refine⟨?_,?_⟩
 ·rw[By,ch,Dg,<-h1,b5,Ha,if_pos];exact toList_inj (show r.key.toList=a.key.toList by simpa using d)
 ·rw[By];intro o b;rcases bR.1 b with b|b
  ·exact e o b
  ·rw[bF.1 b,d,f,g];rfl
theorem Uv{p:Plain}{D T:List LAt}{r:LAt}{a:PLine}(b:Bv R a.key=aC p)(c:BC p.2.1 a.ws=true)(d:(r.key.toList==a.key.toList)=true)(e:(!p.2.2.1 || decide (r.ws=a.ws))=true):(6:Int)=lineFault R ((D++r::T).map LAt.I) a:=by
 have f:Cx R a.key=p.2.2.1:=by unfold Cx;rw[b]
 unfold lineFault;rw[if_neg (by rw[b];simp),if_neg (by rw[Ev _ b,c];simp),if_pos];rw[cd];refine⟨r.I,by simp,?_⟩;rw[f,show r.I.key=r.key from rfl,show r.I.ws=r.ws from rfl,d,e];rfl
theorem Ej.fault{p:Plain}{es:List LAt}{a:PLine}(h:Ej p.2.2.1 es a es.length c)(d:Bv R a.key=aC p)(f:BC p.2.1 a.ws=true):(if 10<=c then (10:Int) else 0)=lineFault R (es.map LAt.I) a:=by
 obtain⟨h1,e⟩:=h;rw[aQ]at h1 e;have g:Cx R a.key=p.2.2.1:=by unfold Cx;rw[d]
 have i:(es.map LAt.I).any (fun o=>o.key.toList==a.key.toList&&(!Cx R a.key || decide (o.ws=a.ws)))=false:=by
  rw[b8];intro o j;obtain⟨b,k,rfl⟩:=bJ.1 j;rw[g,show (b.I.key.toList==a.key.toList&&(!p.2.2.1 || decide (b.I.ws=a.ws)))=false from e b k];decide
 unfold lineFault
 symm
 rw[if_neg (by rw[d];simp),if_neg (by rw[Ev _ d,f];simp),i,if_neg (by decide),h1]
theorem NK{a:PLine}(b:Bv R a.key=aE):(5:Int)=lineFault R es a:=by unfold lineFault;rw[if_pos b]
theorem Mr{p:Plain}{a:PLine}(b:Bv R a.key=aC p)(c:BC p.2.1 a.ws=false):(7:Int)=lineFault R es a:=by
 unfold lineFault;rw[if_neg (by rw[b];simp),if_pos (by rw[Ev _ b,c])]
theorem Hx{T:TypeId}(a:Below (w.heap.size+1) (w.alloc (aG cs T)) w')(j:Nat):w'.cell? ⟨w.heap.size,j,aE⟩=cs[j]?:=by
 unfold bN;rw[show w'.heap[w.heap.size]?=aC (aG cs T (0,0)) from(a.block _ (by omega)).trans (Ai _ _)];rfl
theorem Ew(w:World)(o:Obj):(w.alloc o).heap.size=w.heap.size+1:=by simp
theorem It{ay:Value}{es:List LAt}(a:PLine)(ai:Bh B w vr L)(X:Un (L.map AL.I))(n:Ap w vl es)(bn:es.length<=1048576)(G:∀x∈es,x.ws.length<=1048576)(o:Am w ay a.ws.length 1 (strs a.ws))(az:a.ws.length<=1048576)(H:∀x∈a.ws,x.length<=1048576)(aj:BZ w):
  Calls prog 135 #[vr,vl,bS #[aA a.key,ay]] w fun e w'=>e=aF (.int .i64 (lineFault (L.map AL.I) (es.map LAt.I) a))/\Below w.heap.size w w':=by
 obtain⟨I,J,rfl⟩:=o.ad;obtain⟨bp,bq,rfl⟩:=n.1.ad;have bd:L.length<=12:=by have:=X.1;rwa [aP]at this
 have b0:Below w.heap.size w (w.alloc (aG #[aA a.key,aB I a.ws.length J] 115)):=(aO _ _).alloc (aN _) _;have Y:Bh B (w.alloc (aG #[aA a.key,aB I a.ws.length J] 115)) vr L:=Ay.V ai b0;have ak:=Pn a.key Y bd;have a0:=AH (w:=w) (cs:=#[aA a.key,aB I a.ws.length J]) (T:=115);generalize be:a.ws.length=nw at *;generalize a1:es.length=Z at *;generalize a2:lineFault (L.map AL.I) (es.map LAt.I) a=F;have K:=Ab a2;have a3:=Ab a1;clear a2 a1;go_enter func135,ntmps135;go_wp2_with (go_at_call 93;refine ak.mono ?_)
 rintro e w2 ⟨v,⟨s,rfl⟩|⟨r,a4,s,rfl⟩⟩
 ·have b:=Ab ((NK (es:=es.map LAt.I) s).trans K.out);have d:Below w.heap.size w (w2.alloc (aG #[aA ⟨#[]⟩,aB aE 0 0,.bool false,aB aE 0 0] 54)):=(b0.trans (v.mono (by simp))).alloc (bL b0.size v.size) _;clear ak ai s X n o aj Y G H a0;go_wp2;go_ret;exact⟨Co b.out,d⟩
 ·obtain⟨D,T,rfl⟩:=b6 a4;have al:=(Bh.rm Y).V v;have o1:=al.args;have o2:=al.defs;have M:=X.2 r.I (by simp);have aa:=fun h=>(Mr (es:=es.map LAt.I) s h).trans K.out
  have ab:=fun k y (x:LAt) (e:es=k++x::y) f l am=>(Uv (R:=(D++r::T).map AL.I) (D:=k) (T:=y) (r:=x) s f l am).trans (e▸K.out)
  have ac:=fun c (h:Ej r.I.2.2.1 es a es.length c) f=>(h.fault s f).trans K.out
  obtain⟨rk,va,ns,many,br,ds⟩:=r;simp only[AL.I]at o1 o2 M aa ab ac;generalize bs:ns.length=p at o1 M;generalize bt:ds.length=q at o2;obtain⟨bo,ca,rfl,_⟩:=Al o1;obtain⟨z,cb,rfl,_⟩:=Al o2;have ad:Below (w.heap.size+1) (w.alloc (aG #[aA a.key,aB I nw J] 115)) w2:=by rw[<-Ew];exact v
  have a5:Below w.heap.size w w2:=b0.trans (v.mono (by simp));have ae:w.heap.size<w2.heap.size:=by have:=ad.size;rw[Ew]at this;omega
  have d:=a5.alloc a5.size (aG #[aA rk,aB bo p ca,.bool many,aB z q cb] 54);have g3:Below w2.heap.size w2 (w2.alloc (aG #[aA rk,aB bo p ca,.bool many,aB z q cb] 54)):=(aO _ _).alloc (aN _) _;have an:=(g3.cell (p:=⟨w.heap.size,0,aE⟩) ae).trans (Hx ad 0);have ao:=(g3.cell (p:=⟨w.heap.size,1,aE⟩) ae).trans (Hx ad 1);have ap:=AH (w:=w2) (cs:=#[aA rk,aB bo p ca,.bool many,aB z q cb]) (T:=54) 2;have af:=Ew w2 (aG #[aA rk,aB bo p ca,.bool many,aB z q cb] 54);simp only[aK,aJ,aL]at an ao ap;have N:=ND (key:=rk) (many:=many) (bo:=z) (m:=q) (cb:=cb) (o1.alloc (aG #[aA rk,aB bo p ca,.bool many,aB z q cb] 54)) (o.V d) (by have:=M.1;omega) az M.2 H (aj.V d);clear ak ai al s X aj M o1 o2 a4 Y a0 g3 v ad K;cases f:BC ns a.ws
  ·have b:=Ab (aa f);rw[f]at N;clear aa ab ac n o G H;go_wp2_with (go_at_call 180;refine N.mono ?_;rintro e O ⟨rfl,t⟩)
   go_ret;exact⟨Co b.out,d.trans (t.mono d.size)⟩
  ·have aq:=fun k y (x:LAt) e l am=>ab k y x e f l am
   have ar:=fun c h=>ac c h f
   rw[f]at N;clear aa ab ac;go_wp2_with (go_at_call 180;refine N.mono ?_;rintro e O ⟨rfl,t⟩)
   clear N;have a6:=d.trans (t.mono d.size);have ag:=(t.cell (p:=⟨w.heap.size,0,aE⟩) (by rw[af];exact bK ae)).trans an;have au:=(t.cell (p:=⟨w.heap.size,1,aE⟩) (by rw[af];exact bK ae)).trans ao;have ah:=(t.cell (p:=⟨w2.heap.size,2,aE⟩) (by rw[af];exact cf _)).trans ap;clear an ao ap af d t;go_loopw [9,28] (fun sc i wr=>∃j c:Nat,j<=Z/\c<=j/\i=.int .i64 (j:Int)/\sc=.int .i64 (c:Int)/\Below O.heap.size O wr/\Ej many es a j c) (fun _ i _=>Z-(intOf i).toNat)
   case atStart=>exact⟨0,0,by omega,by omega,rfl,rfl,aO _ _,Ej.zero _ _ _⟩
   case round =>
    obtain⟨j,c,bu,bv,rfl,rfl,av,P⟩:=hrel;have u:=a6.trans (av.mono a6.size);by_cases bw:j<Z
    ·obtain⟨k,x,y,rfl,bf⟩:=AC es j (by have:=a3.out;omega);obtain⟨g,off,rfl,bx,c2⟩:=(n.V u).1.ai;have Q:=(n.V u).2 x (by simp);have bg:=G x (by simp);obtain⟨bh,bi,bj⟩:=Q.ad;have a7:=o.V u;unfold BL at Q;rw[bj]at Q c2;have A:=aq k y x rfl;have aw:=aD O _ ag;have a8:=aD O _ ah;have S:Below wr.heap.size wr (wr.alloc (aG #[aA x.key,aB bh x.ws.length bi] 115)):=(aO _ _).alloc (aN _) _;have a9:=u.trans (S.mono u.size);have U:=av.trans (S.mono av.size);have bz:=(U.cell (p:=⟨w.heap.size,0,aE⟩) aw).trans ag;have b1:=(U.cell (p:=⟨w.heap.size,1,aE⟩) aw).trans au;have b2:=(U.cell (p:=⟨w2.heap.size,2,aE⟩) a8).trans ah;have ba:=Q.V S;have bb:=a7.V S;subst bf;have V:=fun h=>P.other (r:=x) h
     have W:=fun h1 bk bl=>P.count (r:=x) h1 bk bl
     have C:=GI ba (show Am _ (aB I nw J) a.ws.length 1 (strs a.ws) by rw[be];exact bb) bg az;clear P aq ar n G o H a7 bb Q ba ag au ah aw a8 S;generalize x.ws.length=b3 at *;generalize x.key=xk at *;cases l:(xk.toList==a.key.toList)
     ·have b:=V l;clear V W C A;go_wp2;go_roundw;case rel=>exact⟨k.length+1,c,by omega,by omega,by go_num,rfl,U,b⟩
      case measure=>simp[intOf];omega
     ·cases many
      ·have b:=Ab (A l rfl);clear V W C A;go_wp2;go_ret;exact⟨Co b.out,a9⟩
      ·cases hd:decide (x.ws=a.ws)
       ·have b:=W l rfl hd;rw[hd]at C;clear V W A;go_wp2_with (go_at_call 127;refine C.mono ?_;rintro e bm ⟨rfl,ax,rfl⟩)
        go_roundw;case rel=>exact⟨k.length+1,c+1,by omega,by omega,by go_num,by go_num,ce U ax,b⟩
        case measure=>simp[intOf];omega
       ·have b:=Ab (A l (by rw[hd];rfl));rw[hd]at C;clear V W A;go_wp2_with (go_at_call 127;refine C.mono ?_;rintro e bm ⟨rfl,ax,rfl⟩)
        go_ret;exact⟨Co b.out,ce a9 ax⟩
    ·obtain rfl:j=Z:=by omega
     have E:=ar c (by rw[a3.out];exact P);clear P aq ar n G o H ag au ah;by_cases bc:10<=c
     ·rw[if_pos bc]at E;have b:=Ab E;clear E;go_wp2;go_ret;exact⟨Co b.out,u⟩
     ·rw[if_neg bc]at E;have b:=Ab E;clear E;go_wp2;go_ret;exact⟨Co b.out,u⟩
variable {w0:World}
def F8(R:List Plain)(ls:List PLine)(k:Nat):Prop:=∀i a,i<k->ls[i]?=aC a->lineFault R (ls.take i) a=0
theorem F8.zero(R:List Plain)(ls:List PLine):F8 R ls 0:=fun _ _ h=>by omega
theorem F8.succ{ls:List PLine}{a:PLine}(h:F8 R ls k)(d:ls[k]?=aC a)(f:lineFault R (ls.take k) a=0):F8 R ls (k+1):=by
 intro i b g c;by_cases e:i=k
 ·subst e;rw[d]at c;cases c;exact f
 ·exact h i b (by omega) c
theorem Aba{ls:List PLine}{a:PLine}(b:ls[k]?=aC a)(c:lineFault R (ls.take k) a≠0):false=linesB R ls:=by
 rw[eq_comm,<-bQ,CL];exact fun h=>c ((EG h).1 k a b)
open Classical in
theorem F8.all{ls:List PLine}(h:F8 R ls ls.length):EE (lineLt R) ls=linesB R ls:=by
 rw[ci,CL];unfold EE;rw[decide_eq_true_iff];constructor
 ·intro hd;exact Pf (fun i a b=>h i a (aH.1 b).1 b) hd
 ·exact fun c=>(EG c).2
theorem Ap.take{cap:Nat}(h:Ap w (aB ao n cap) ls)(k:Nat)(a:k<=ls.length):Ap w (aB ao k cap) (ls.take k):=by
 have b:n=ls.length:=by obtain⟨_,_,_,e,_⟩:=h.1;cases e;rfl
 subst b;refine⟨?_,fun x c=>h.2 x (bD c)⟩;have:=h.1.take k a;rw[Oz _ 2 LAt.len]at this;rw[aV,cj a];exact this
theorem Au.take{cap:Nat}(h:Au w (aB ao n cap) bs)(k:Nat)(a:k<=bs.length):Au w (aB ao k cap) (bs.take k):=by
 have b:n=bs.length:=by obtain⟨_,_,_,e,_⟩:=h.1;cases e;rfl
 subst b;refine⟨?_,fun x c=>h.2 x (bD c)⟩;have:=h.1.take k a;rw[Oz _ 3 BAt.len]at this;rw[aV,cj a];exact this
def Aj(ls:List LAt):Prop:=ls.length<=1048576/\∀x∈ls,x.ws.length<=1048576/\∀y∈x.ws,y.length<=1048576
def A3(bs:List BAt):Prop:=bs.length<=1048576/\∀b∈bs,b.name.size<=1048576/\Aj b.ls
theorem E4(b:∃a n c,v=aB a n c)(w:World):Calls prog 75 #[v] w fun e w'=>e=aF (.func (.func 147) #[] #[bH (aC ⟨w.heap.size,0,aE⟩)])/\w'=w.alloc (aG #[v] 47):=by
 obtain⟨a,n,c,rfl⟩:=b;go_enter func75,ntmps75;go_wp2;go_ret;exact⟨rfl,rfl⟩
theorem Ms(kind name:ByteArray)(o:Ap w vl ls)(f:Aj ls)(U:BZ w):Calls prog 67 #[bS #[aA kind,aA name,vl]] w fun e w'=>e=aF (.bool (linesB (rulesOf kind) (ls.map LAt.I)))/\Below w.heap.size w w':=by
 obtain⟨q,b,rfl⟩:=o.1.ad;have ay:=o.1.cap;have bb:=f.1;have b0:Below w.heap.size w (w.alloc (aG #[aA kind,aA name,aB q ls.length b] 46)):=(aO _ _).alloc (aN _) _;have az:=AH (w:=w) (cs:=#[aA kind,aA name,aB q ls.length b]) (T:=46);have ak:=CU kind (w.alloc (aG #[aA kind,aA name,aB q ls.length b] 46));have K:=Bm kind;generalize al:ls.length=n at *;generalize am:ls.map LAt.I=c;have r:=Ab am;have k:=Ab al;clear am al;have an:c.length=n:=by rw[<-r.out,aP,k.out]
 have V:=Ab an;clear an;generalize rulesOf kind=R at *;go_enter func67,ntmps67;go_wp2_with (go_at_call 29;refine ak.mono ?_)
 rintro e w1 ⟨vr,L,rfl,s,B,X⟩;clear ak;have Y:Below (w.heap.size+1) (w.alloc (aG #[aA kind,aA name,aB q n b] 46)) w1:=by rw[<-Ew];exact X
 have ao:Below w.heap.size w w1:=b0.trans (X.mono (by simp));have Z:=Hx Y 0;have aa:=Hx Y 2;simp only[aK,aJ,aL]at Z aa;clear az X Y b0;have a0:=(Bh.rin B).1.ad;obtain⟨M,N,rfl⟩:=a0;have a1:=Ab (rfl:L.length=L.length);generalize ap:L.length=m at *;have bc:=Ab ap;clear ap a1;go_wp2;go_loopw [12] (fun i wr=>∃j:Nat,j<=n/\i=.int .i64 (j:Int)/\Below w1.heap.size w1 wr/\F8 R c j) (fun i _=>n-(intOf i).toNat)
 case atStart=>exact⟨0,by omega,rfl,aO _ _,F8.zero _ _⟩
 case round =>
  obtain⟨j,bd,rfl,t,O⟩:=hrel;have d:=ao.trans (t.mono ao.size);have a2:=aD w1 _ aa;have P:=(t.cell (p:=⟨w.heap.size,2,aE⟩) a2).trans aa;have aq:=aD wr _ P;by_cases be:j<n
  ·obtain⟨D,x,T,Q,ar⟩:=AC ls j (by have:=k.out;omega);have C:=o.V d;have ab:=C;rw[Q]at ab;obtain⟨g,off,rfl,a3,c2⟩:=ab.1.ai;have ac:x∈ls:=by rw[Q];simp
   obtain⟨u,z,ad⟩:=(C.2 x ac).ad;rw[ar]at a3 c2;rw[ad]at c2;have ae:c[j]?=aC x.I:=by rw[<-r.out,Q,<-ar];simp
   have au:(ls.take j).map LAt.I=c.take j:=by rw[<-r.out,ck]
   have af:=fun h=>O.succ ae h
   have ag:=fun h=>Aba (R:=R) ae h
   have E:∀(W:World),Below wr.heap.size wr W->Calls prog 135 #[aB M m N,aB (aC ⟨g,off,aE⟩) j b,bS #[aA x.key,aB u x.ws.length z]] W fun e w'=>e=aF (.int .i64 (lineFault R (c.take j) x.I))/\Below W.heap.size W w':=by
    intro W l;have ah:=d.trans (l.mono d.size);have av:=f.2 x ac;rw[<-au,<-s];refine It x.I (Ay.V (Ay.V B t) l) (by rw[s];exact K) ((C.V l).take j (by have:=k.out;omega)) ?_ (fun y a4=>(f.2 y (bD a4)).1) (ad▸(C.V l).2 x ac) av.1 av.2 (U.V ah);rw[aV];have:=f.1;have:=k.out;omega
   clear o C ab U f B K O Q ad ae au Z k r V s;generalize lineFault R (c.take j) x.I=F at *;generalize x.ws.length=G at *;generalize x.key=xk at *;have H:Below wr.heap.size wr (wr.alloc (aG #[aA xk,aB u G z] 115)):=(aO _ _).alloc (aN _) _;have k0:=(H.cell (p:=⟨w.heap.size,2,aE⟩) aq).trans P;have I:=AH (w:=wr) (cs:=#[aA xk,aB u G z]) (T:=115) 0;have J:=AH (w:=wr) (cs:=#[aA xk,aB u G z]) (T:=115) 1;simp only[aK,aJ,aL]at I J;have i0:(0:Int)<=(j:Int):=by omega
   have bf:(j:Int)<=(b:Int):=by have:=ay.1;omega
   by_cases A:F=0
   ·have ai:=af A;rw[A]at E;clear af ag A;go_wp2
    go_region_held3 (fun W'=>W'.cell? ⟨w.heap.size,2,aE⟩=aC (aB (aC ⟨g,off,aE⟩) n b)/\W'.cell? ⟨wr.heap.size,0,aE⟩=aC (aA xk)/\W'.cell? ⟨wr.heap.size,1,aE⟩=aC (aB u G z))
     (first|exact⟨k0,I,J⟩|exact⟨(a.cell (by simp;omega)).trans k0,(a.cell (by simp)).trans I,(a.cell (by simp)).trans J⟩)
     (first|(go_at_call 135;refine(E _ H.drew).mono ?_;rintro e aj ⟨rfl,a⟩))
    all_goals
     go_wp2;go_roundw;case rel=>exact⟨j+1,by omega,by go_num,t.trans ((H.drew.trans (a.mono (by simp))).mono t.size),ai⟩
     case measure=>simp[intOf];omega
   ·have ai:=Ab (ag A);have bg:(F != 0)=true:=by rw[bne_iff_ne];exact A
    clear af ag A;go_wp2
    go_region_held3 (fun W'=>W'.cell? ⟨w.heap.size,2,aE⟩=aC (aB (aC ⟨g,off,aE⟩) n b)/\W'.cell? ⟨wr.heap.size,0,aE⟩=aC (aA xk)/\W'.cell? ⟨wr.heap.size,1,aE⟩=aC (aB u G z))
     (first|exact⟨k0,I,J⟩|exact⟨(a.cell (by simp;omega)).trans k0,(a.cell (by simp)).trans I,(a.cell (by simp)).trans J⟩)
     (first|(go_at_call 135;refine(E _ H.drew).mono ?_;rintro e aj ⟨rfl,a⟩))
    all_goals
     go_wp2;go_ret;exact⟨As ai.out,d.trans ((H.drew.trans (a.mono (by simp))).mono d.size)⟩
  ·obtain rfl:j=n:=by omega
   have aw:=Ab (show EE (lineLt R) c=linesB R c from F8.all (by rw[V.out];exact O));have E:∀(W:World),Below wr.heap.size wr W->Calls prog 136 #[aB q j b,.func (.func 147) #[] #[bH (aC ⟨W.heap.size,0,aE⟩)]] (W.alloc (aG #[aB M m N] 47)) fun e w'=>e=aF (.bool (linesB R c))/\Below wr.heap.size wr w':=by
    intro W l;have a5:Below W.heap.size W (W.alloc (aG #[aB M m N] 47)):=(aO _ _).alloc (aN _) _;have S:=l.trans (a5.mono l.size);have ah:=d.trans (S.mono d.size);have ax:=KZ (RL:=L) W.heap.size (o.V ah) (by have:=f.1;have:=k.out;omega) (fun x a6=>(f.2 x a6).1) (Bh.rin (Ay.V (Ay.V B t) S)) (by have:=K.1;rw[<-s,aP]at this;exact this) (AH (w:=W) 0);rw[s,r.out,aw.out]at ax;exact ax.mono fun e w' ⟨a7,a8⟩=>⟨a7,S.trans (a8.1.mono S.size)⟩
   have a9:=fun W=>E4 (v:=aB M m N) ⟨_,_,_,rfl⟩ W
   have ba:Below wr.heap.size wr wr.drew:=(aO _ _).drew;clear o U f B K O k r V s Z aw;go_wp2
   go_region_held3 (fun W'=>W'.cell? ⟨w.heap.size,2,aE⟩=aC (aB q j b))
    (first|exact P|exact(a.cell aq).trans P|go_keep)
    (first|(go_at_call 75;refine(a9 _).mono ?_;rintro e aj ⟨rfl,rfl⟩)|(go_at_call 136;refine(E _ ba).mono ?_;rintro e aj ⟨rfl,a⟩))
   all_goals
    go_wp2;go_ret;exact⟨rfl,d.trans (a.mono d.size)⟩
def Em(bs:List PBlock)(k:Nat):Prop:=∀i b,i<k->bs[i]?=aC b->headFault (bs.take i) b.aa b.name=0/\AG (rulesOf b.aa) b.ac
theorem Em.zero(bs:List PBlock):Em bs 0:=fun _ _ h=>by omega
theorem Em.succ{bs:List PBlock}{b:PBlock}(h:Em bs k)(d:bs[k]?=aC b)(f:headFault (bs.take k) b.aa b.name=0)(g:linesB (rulesOf b.aa) b.ac=true):Em bs (k+1):=by
 intro i c j a;by_cases e:i=k
 ·subst e;rw[d]at a;cases a;exact⟨f,CL.1 g⟩
 ·exact h i c (by omega) a
theorem Uw{bs:List PBlock}{b:PBlock}(a:bs[k]?=aC b)(c:headFault (bs.take k) b.aa b.name≠0):false=Bw bs:=by
 rw[eq_comm,<-bQ,AS];exact fun h=>c ((Ge h).1 k b a).1
theorem Sn{bs:List PBlock}{b:PBlock}(c:bs[k]?=aC b)(a:linesB (rulesOf b.aa) b.ac=false):false=Bw bs:=by
 rw[eq_comm,<-bQ,AS];intro h;rw[CL.2 ((Ge h).1 k b c).2]at a;cases a
open Classical in
theorem Em.all{bs:List PBlock}(h:Em bs bs.length):EE blockLt bs=Bw bs:=by
 rw[ci,AS];unfold EE;rw[decide_eq_true_iff];constructor
 ·intro hd;exact Ph (fun i b a=>h i b (aH.1 a).1 a) hd
 ·exact fun c=>(Ge c).2
theorem So(e:Below B w0 W/\w0.heap.size<=W.heap.size/\W.cell? a1=aC v1/\W.cell? a2=aC v2/\W.cell? a3=aC v3/\W.cell? a4=aC v4)(k:B<=w0.heap.size)(c:Below W.heap.size W W1):
  Below B w0 W1/\w0.heap.size<=W1.heap.size/\W1.cell? a1=aC v1/\W1.cell? a2=aC v2/\W1.cell? a3=aC v3/\W1.cell? a4=aC v4:=by
 obtain⟨f,g,h1,h,i,j⟩:=e;have b:∀ {a:Addr} {u:Value},W.cell? a=aC u->W1.cell? a=aC u:=fun d=>(c.cell (aD W _ d)).trans d
 exact⟨f.trans (c.mono (by omega)),bL g c.size,b h1,b h,b i,b j⟩
theorem F9(m:Au w v bs)(o:A3 bs)(R:BZ w):Calls prog 19 #[bS #[v]] w fun e w'=>e=aF (.bool (Bw (bs.map BAt.I)))/\Below w.heap.size w w':=by
 obtain⟨S,k,rfl⟩:=m.1.ad;have ak:=m.1.cap;have a2:=o.1;have b0:Below w.heap.size w (w.alloc (aG #[aB S bs.length k] 25)):=(aO _ _).alloc (aN _) _;have E:=AH (w:=w) (cs:=#[aB S bs.length k]) (T:=25) 0;simp only[aK,aJ]at E;generalize U:bs.length=n at *;generalize V:bs.map BAt.I=l;have r:=Ab V;have G:=Ab U;have X:=Ab (show l.length=n by rw[<-V,aP,U]);clear V U;go_enter func19,ntmps19;go_wp2;generalize aq:w.alloc (aG #[aB S n k] 25)=w1 at *;clear aq;go_loopw [8] (fun i wr=>∃j:Nat,j<=n/\i=.int .i64 (j:Int)/\Below w1.heap.size w1 wr/\Em l j) (fun i _=>n-(intOf i).toNat)
 case atStart=>exact⟨0,by omega,rfl,aO _ _,Em.zero _⟩
 case round =>
  obtain⟨j,ar,rfl,H,I⟩:=hrel;have f:=b0.trans (H.mono b0.size);have al:=aD w1 _ E;have J:=(H.cell (p:=⟨w.heap.size,0,aE⟩) al).trans E;have am:=aD wr _ J;by_cases a3:j<n
  ·obtain⟨D,x,T,K,Y⟩:=AC bs j (by have:=G.out;omega);have s:=m.V f;have Z:=s;rw[K]at Z;obtain⟨g,off,rfl,au,c2,c3⟩:=Z.1.block;have L:x∈bs:=by rw[K];simp
   have aa:=o.2 x L;obtain⟨a,b,ab⟩:=(s.2 x L).1.ad;rw[Y]at au c2 c3;rw[ab]at c3;have M:l[j]?=aC x.I:=by rw[<-r.out,K,<-Y];simp
   have an:(bs.take j).map BAt.I=l.take j:=by rw[<-r.out,ck]
   have N:=fun h av=>I.succ M h av
   have O:=fun h=>Uw M h
   have P:=fun h=>Sn M h
   have q:∀(W:World),Below wr.heap.size wr W->Calls prog 66 #[aB (aC ⟨g,off,aE⟩) j k,aA x.aa,aA x.name] W fun e w'=>e=aF (.int .i64 (headFault (l.take j) x.I.aa x.I.name))/\Below W.heap.size W w':=by
    intro W Q;rw[<-an];exact Ir x.aa x.name ((s.V Q).take j (by have:=G.out;omega)) (by rw[aV];have:=o.1;omega) aa.1
   have t:∀(W:World),Below wr.heap.size wr W->Calls prog 67 #[bS #[aA x.aa,aA x.name,aB a x.ls.length b]] W fun e w'=>e=aF (.bool (linesB (rulesOf x.I.aa) x.I.ac))/\Below W.heap.size W w':=by
    intro W Q;have aw:=f.trans (Q.mono f.size);exact Ms x.aa x.name (ab▸(s.V Q).2 x L) aa.2 (R.V aw)
   clear m s Z R o I K ab M an G r X aa;generalize headFault (l.take j) x.I.aa x.I.name=F at *;generalize linesB (rulesOf x.I.aa) x.I.ac=ax at *;generalize x.ls.length=c at *;generalize x.aa=xk at *;generalize x.name=d at *;have ac:Below wr.heap.size wr (wr.alloc (aG #[aA xk,aA d,aB a c b] 46)):=(aO _ _).alloc (aN _) _;have k0:=(ac.cell (p:=⟨w.heap.size,0,aE⟩) am).trans J;have ad:=AH (w:=wr) (cs:=#[aA xk,aA d,aB a c b]) (T:=46) 0;have ae:=AH (w:=wr) (cs:=#[aA xk,aA d,aB a c b]) (T:=46) 1;have af:=AH (w:=wr) (cs:=#[aA xk,aA d,aB a c b]) (T:=46) 2;simp only[aK,aJ,aL]at ad ae af;have i0:(0:Int)<=(j:Int):=by omega
   have a4:(j:Int)<=(k:Int):=by have:=ak.1;omega
   have ag:=Ew wr (aG #[aA xk,aA d,aB a c b] 46);have ay:w.heap.size<(wr.alloc (aG #[aA xk,aA d,aB a c b] 46)).drew.heap.size:=by rw[b9,ag];exact bK am
   have az:wr.heap.size<(wr.alloc (aG #[aA xk,aA d,aB a c b] 46)).drew.heap.size:=by rw[b9,ag];exact cf _
   have u:=ac.drew;have y:Below wr.heap.size wr (wr.alloc (aG #[aA xk,aA d,aB a c b] 46)).drew/\wr.heap.size<=(wr.alloc (aG #[aA xk,aA d,aB a c b] 46)).drew.heap.size/\(wr.alloc (aG #[aA xk,aA d,aB a c b] 46)).drew.cell? ⟨w.heap.size,0,aE⟩=aC (aB (aC ⟨g,off,aE⟩) n k)/\(wr.alloc (aG #[aA xk,aA d,aB a c b] 46)).drew.cell? ⟨wr.heap.size,0,aE⟩=aC (aA xk)/\(wr.alloc (aG #[aA xk,aA d,aB a c b] 46)).drew.cell? ⟨wr.heap.size,1,aE⟩=aC (aA d)/\(wr.alloc (aG #[aA xk,aA d,aB a c b] 46)).drew.cell? ⟨wr.heap.size,2,aE⟩=aC (aB a c b):=⟨u,u.size,k0,ad,ae,af⟩;clear ay az ag ac E al ak Y L ar;by_cases z:F=0
   ·rw[z]at q;clear k0 ad ae af J;cases ax
    ·have A:=Ab (P rfl);clear N O P;go_wp2
     go_region_held3 (fun W'=>Below wr.heap.size wr W'/\wr.heap.size<=W'.heap.size/\W'.cell? ⟨w.heap.size,0,aE⟩=aC (aB (aC ⟨g,off,aE⟩) n k)/\W'.cell? ⟨wr.heap.size,0,aE⟩=aC (aA xk)/\W'.cell? ⟨wr.heap.size,1,aE⟩=aC (aA d)/\W'.cell? ⟨wr.heap.size,2,aE⟩=aC (aB a c b))
      (first|assumption|exact y|exact So (by assumption) (aN _) (by assumption))
      (first|(go_at_call 66;refine(q _ (bM (by assumption))).mono ?_;rintro e ah ⟨rfl,B⟩)|(go_at_call 67;refine(t _ (bM (by assumption))).mono ?_;rintro e a0 ⟨rfl,ai⟩))
     all_goals
      rename_i C;have aj:=C.1;clear C y B ai q t;go_wp2;go_ret;exact⟨As A.out,f.trans (aj.mono f.size)⟩
    ·have A:=N z rfl;clear N O P;go_wp2
     go_region_held3 (fun W'=>Below wr.heap.size wr W'/\wr.heap.size<=W'.heap.size/\W'.cell? ⟨w.heap.size,0,aE⟩=aC (aB (aC ⟨g,off,aE⟩) n k)/\W'.cell? ⟨wr.heap.size,0,aE⟩=aC (aA xk)/\W'.cell? ⟨wr.heap.size,1,aE⟩=aC (aA d)/\W'.cell? ⟨wr.heap.size,2,aE⟩=aC (aB a c b))
      (first|assumption|exact y|exact So (by assumption) (aN _) (by assumption))
      (first|(go_at_call 66;refine(q _ (bM (by assumption))).mono ?_;rintro e ah ⟨rfl,B⟩)|(go_at_call 67;refine(t _ (bM (by assumption))).mono ?_;rintro e a0 ⟨rfl,ai⟩))
     all_goals
      rename_i C;have aj:=C.1;clear C y B ai q t;go_wp2;go_roundw;case rel=>exact⟨j+1,by omega,by go_num,H.trans (aj.mono H.size),A⟩
      case measure=>simp[intOf];omega
   ·have A:=Ab (O z);have a5:(F != 0)=true:=by rw[bne_iff_ne];exact z
    clear N O P z t y J;go_wp2
    go_region_with (first
     | (go_at_call 66;refine(q _ u).mono ?_;rintro e ah ⟨rfl,B⟩))
    all_goals
     go_wp2;go_ret;exact⟨As A.out,f.trans ((u.trans (B.mono u.size)).mono f.size)⟩
  ·obtain rfl:j=n:=by omega
   have ao:=Ab (show EE blockLt l=Bw l from Em.all (by rw[X.out];exact I));have ap:=Kc (m.V f) (by have:=o.1;omega);rw[r.out,ao.out]at ap;clear m o R I G r X ao;go_wp2_with (go_at_call 68;refine ap.mono ?_;rintro e ah ⟨rfl,a1⟩)
   go_ret;exact⟨rfl,f.trans (a1.1.mono f.size)⟩
def Kd(R:List Plain):Prop:=(R.map fun p=>p.1.toList).Nodup
theorem WY(kind:ByteArray):Kd (rulesOf kind):=by
 unfold rulesOf Kd;split
 ·unfold teamRules;simp only[aI];decide
 ·split
  ·unfold berthRules;simp only[aI];decide
  ·split
   ·unfold serviceRules;simp only[aI];decide
   ·simp
theorem YC(h:Kd R){D T:List Plain}{p:Plain}{key:ByteArray}(k:R=D++p::T)(l:Bv R key=aC p):placeI R key=(D.length:Int):=by
 obtain⟨i,m,b,n⟩:=De l;rw[m];have h1:R[D.length]?=aC p:=by rw[k];simp
 have c:=(aH.1 b).1;have d:=(aH.1 h1).1;by_cases e:i=D.length
 ·rw[e]
 ·exfalso;have f:=List.pairwise_iff_getElem.1 h;have g:=(aH.1 b).2;have j:=(aH.1 h1).2;rcases Nat.lt_or_gt_of_ne e with a|a
  ·have:=f i D.length (by simpa using c) (by simpa using d) a;simp only[bP,g,j]at this;exact this rfl
  ·have:=f D.length i (by simpa using d) (by simpa using c) a;simp only[bP,g,j]at this;exact this rfl
theorem Mt{key:ByteArray}(h:Bv R key=aE):placeI R key=-1:=by
 unfold placeI;rw[bU.2];unfold Bv at h;intro p a;have:=List.find?_eq_none.1 h p a;simpa using this
def Got(v:Value)(w:World)(e:Ending)(w':World):Prop:=e=aF v/\Below w.heap.size w w'
theorem Fu(kind key:ByteArray)(w:World):Calls prog 90 #[aA kind,aA key] w fun e w'=>e=aF (.int .i64 (placeI (rulesOf kind) key))/\Below w.heap.size w w':=by
 refine(LV kind key w).mono fun e w' ⟨a,b⟩=>⟨?_,a⟩
 rcases b with ⟨h,rfl⟩|⟨D,p,T,c,h,rfl⟩
 ·rw[Mt h]
 ·rw[YC (WY kind) c h]
theorem Adl{xs:List (List UInt8)}(h:Cp xs ys k)(h1:k<xs.length)(f:k<ys.length)(e:(xs[k]==ys[k])=false):decide (xs[k]<ys[k])=decide (xs<ys):=by
 rw[decide_eq_decide];unfold Cp at h;have g:xs=xs.take k++xs[k]::xs.drop (k+1):=by rw[<-aM h1,aT]
 have i:ys=ys.take k++ys[k]::ys.drop (k+1):=by rw[<-aM f,aT]
 have j:xs[k]≠ys[k]:=by simpa using e
 have l:∀(p a b:List (List UInt8)),p++a<p++b↔a<b:=by
  intro p a b
  induction p with
  | nil=>rfl
  | cons c p d =>
   rw[bC,bC,Fq];constructor
   ·rintro(q|⟨_,q⟩)
    ·exact absurd q (Fp.irr _)
    ·exact d.1 q
   ·exact fun q=>.inr ⟨rfl,d.2 q⟩
 generalize m:xs[k]=X at *;generalize n:ys[k]=Y at *;rw[g,i,h,l,Fq];constructor
 ·exact fun q=>.inl q
 ·rintro(q|⟨q,_⟩)
  ·exact q
  ·exact absurd q j
theorem Sp{xs:List (List UInt8)}(h:Cp xs ys k)(s:k=xs.length\/k=ys.length)(t:k<=xs.length)(u:k<=ys.length):decide (xs.length<ys.length)=decide (xs<ys):=by
 rw[decide_eq_decide];unfold Cp at h;have j:xs=xs.take k++xs.drop k:=(aT _ _).symm;have m:ys=ys.take k++ys.drop k:=(aT _ _).symm;have n:∀(p a b:List (List UInt8)),p++a<p++b↔a<b:=by
  intro p a b
  induction p with
  | nil=>rfl
  | cons c p f =>
   rw[bC,bC,Fq];constructor
   ·rintro(q|⟨_,q⟩)
    ·exact absurd q (Fp.irr _)
    ·exact f.1 q
   ·exact fun q=>.inr ⟨rfl,f.2 q⟩
 have o:xs<ys↔xs.drop k<ys.drop k:=by
  conv=>lhs;rw[j,m,h]
  exact n _ _ _
 rw[o];have d:(xs.drop k).length=xs.length-k:=cc;have e:(ys.drop k).length=ys.length-k:=cc;cases g:xs.drop k with
 | nil =>
  rw[g]at d;simp at d;cases i:ys.drop k with
  | nil =>
   rw[i]at e;simp at e;constructor
   ·intro q;omega
   ·intro q;exact absurd q (cg _)
  | cons y l =>
   rw[i]at e;simp at e;exact⟨fun _=>List.nil_lt_cons _ _,fun _=>by omega⟩
 | cons x l =>
  rw[g]at d;simp at d;have r:ys.drop k=[]:=List.drop_eq_nil_of_le (by omega);rw[r];constructor
  ·intro q;omega
  ·intro q;exact absurd q (cg _)
theorem IH{xs:List (List UInt8)}(h1:Am w (aB ao n ca) xs.length 1 (strs xs))(d:Am w (aB bo m cb) ys.length 1 (strs ys))(r:n<=1048576)(s:m<=1048576):Calls prog 156 #[aB ao n ca,aB bo m cb] w fun e w'=>e=aF (.bool (decide (xs<ys)))/\∃q,w'=w.drewN q:=by
 have g:=Ab (show n=xs.length by obtain⟨_,_,_,e,_⟩:=h1;cases e;rfl);have f:=Ab (show m=ys.length by obtain⟨_,_,_,e,_⟩:=d;cases e;rfl);go_enter func156,ntmps156;go_wp2;go_loopw [5] (fun i wr=>∃k q:Nat,k<=n/\k<=m/\i=.int .i64 (k:Int)/\wr=w.drewN q/\Cp xs ys k) (fun i _=>n-(intOf i).toNat)
 case atStart=>exact⟨0,0,by omega,by omega,rfl,rfl,Cp.zero _ _⟩
 case round =>
  obtain⟨k,q,t,u,rfl,rfl,a⟩:=hrel;by_cases v:k<n
  ·have o:k<xs.length:=by have:=g.out;omega
   by_cases z:k<m
   ·have p:k<ys.length:=by have:=f.out;omega
    obtain⟨b,off,rfl,A⟩:=h1.word k o;obtain⟨B,C,rfl,c2⟩:=d.word k p;have h:(aW xs[k].toArray).toList=xs[k]:=by rw[aI]
    have j:(aW ys[k].toArray).toList=ys[k]:=by rw[aI]
    cases l:(xs[k]==ys[k])
    ·have c:=Ab (show cm xs[k] ys[k]=decide (xs<ys) by rw[Ji];exact Adl a o p l);rw[<-h,<-j]at l c;generalize (⟨xs[k].toArray⟩:ByteArray)=x at *;generalize (⟨ys[k].toArray⟩:ByteArray)=y at *;clear a h1 d h j;go_wp2;go_quiet (fail)
     go_wp2;go_quiet (fail)
     go_wp2;go_ret;exact⟨As c.out,_,by first|rfl|exact aS _ _ _|(rw[aS,aS])⟩
    ·have c:=a.succ o p l;rw[<-h,<-j]at l;generalize (⟨xs[k].toArray⟩:ByteArray)=x at *;generalize (⟨ys[k].toArray⟩:ByteArray)=y at *;clear a h1 d h j;go_wp2;go_quiet (fail)
     go_wp2;go_roundw;case rel=>exact⟨k+1,_,by omega,by omega,by go_num,by first|rfl|exact aS _ _ _,c⟩
     case measure=>simp[intOf];omega
   ·have c:=Ab (show decide (n<m)=decide (xs<ys) by rw[g.out,f.out];exact Sp a (.inr (by have:=f.out;omega)) (by omega) (by have:=f.out;omega));clear a h1 d;go_wp2;go_ret;exact⟨As c.out,q,rfl⟩
  ·have c:=Ab (show decide (n<m)=decide (xs<ys) by rw[g.out,f.out];exact Sp a (.inl (by have:=g.out;omega)) (by have:=g.out;omega) (by have:=f.out;omega));clear a h1 d;go_wp2;go_ret;exact⟨As c.out,q,rfl⟩
theorem Hf(kind:ByteArray)(a b:PLine)(s:Am w va a.ws.length 1 (strs a.ws))(t:Am w vb b.ws.length 1 (strs b.ws))(I:a.ws.length<=1048576)(lb:b.ws.length<=1048576):Calls prog 121 #[aA kind,bS #[aA a.key,va],bS #[aA b.key,vb]] w fun e w'=>e=aF (.bool (lineLt (rulesOf kind) a b))/\Below w.heap.size w w':=by
 obtain⟨h,ca,rfl⟩:=s.ad;obtain⟨i,cb,rfl⟩:=t.ad;have j:=((aO w.heap.size w).alloc (aN _) (aG #[aA a.key,aB h a.ws.length ca] 115)).alloc (by simp) (aG #[aA b.key,aB i b.ws.length cb] 115);have f:=Ct (w:=w) (cs:=#[aA a.key,aB h a.ws.length ca]) (ds:=#[aA b.key,aB i b.ws.length cb]) (T:=115) (U:=115);have c0:=f.1 0;have k:=f.1 1;have u:=f.2 0;have l:=f.2 1;simp only[aK,aJ,aL]at c0 k u l;clear f;have z:=s.V j;have A:=t.V j;have v:∀key W,Calls prog 90 #[aA kind,aA key] W fun e w'=>Got (.int .i64 (placeI (rulesOf kind) key)) W e w':=fun key W=>Fu kind key W
 have c:=Ab (show lineLt (rulesOf kind) a b=(decide (placeI (rulesOf kind) a.key<placeI (rulesOf kind) b.key) || (decide (placeI (rulesOf kind) a.key=placeI (rulesOf kind) b.key)&&decide (a.ws<b.ws))) from rfl);generalize lineLt (rulesOf kind) a b=LT at *;generalize placeI (rulesOf kind)=B at *;generalize C:a.ws.length=D at *;generalize E:b.ws.length=F at *;have J:=Ab C;have K:=Ab E;clear s t C E;go_enter func121,ntmps121;go_wp2_with fail
 generalize (w.alloc (aG #[aA a.key,aB h D ca] 115)).alloc (aG #[aA b.key,aB i F cb] 115)=W at *;have L:=aD W _ k;have G:=aD W _ l;go_wp2_with (go_at_call 90;refine(v a.key _).mono ?_)
 rintro e w1 ⟨rfl,m⟩;have M:=(m.cell (p:=⟨w.heap.size+1,0,aE⟩) G).trans u;go_wp2_with (go_at_call 90;refine(v b.key _).mono ?_)
 rintro e w2 ⟨rfl,H⟩;have d:=m.trans (H.mono m.size);have N:=(d.cell (p:=⟨w.heap.size,1,aE⟩) L).trans k;have O:=(d.cell (p:=⟨w.heap.size+1,1,aE⟩) G).trans l;have x:=j.trans (d.mono j.size);have y:=IH (w:=w2) (show Am _ (aB h D ca) a.ws.length 1 (strs a.ws) by rw[J.out];exact z.V d) (show Am _ (aB i F cb) b.ws.length 1 (strs b.ws) by rw[K.out];exact A.V d) I lb;clear v z A m H d c0 k u l M;generalize B a.key=n at *;generalize B b.key=o at *;by_cases h1:n<o
 ·have g:=Ab (show true=LT by rw[c.out];simp[h1]);clear c y;go_wp2;go_ret;exact⟨As g.out,x⟩
 ·by_cases r:n=o
  ·have g:=Ab (show decide (a.ws<b.ws)=LT by rw[c.out];simp[r]);subst r;clear c;generalize decide (a.ws<b.ws)=P at *;go_wp2_with (go_at_call 156;refine y.mono ?_;rintro e w3 ⟨rfl,q,rfl⟩)
   go_ret;exact⟨As g.out,ce x q⟩
  ·have g:=Ab (show decide (n<o)=LT by rw[c.out];simp[h1,r]);have Q:(n==o)=false:=by rw[beq_eq_false_iff_ne];exact r
   clear c y;go_wp2;go_ret;exact⟨As g.out,x⟩
theorem K4(a b:PBlock)(i lb ca cb:Nat)(j k:Option Addr)(w:World):Calls prog 59 #[bS #[aA a.aa,aA a.name,aB j i ca],bS #[aA b.aa,aA b.name,aB k lb cb]] w fun e w'=>e=aF (.bool (blockLt a b))/\Below w.heap.size w w':=by
 have l:=((aO w.heap.size w).alloc (aN _) (aG #[aA a.aa,aA a.name,aB j i ca] 46)).alloc (by simp) (aG #[aA b.aa,aA b.name,aB k lb cb] 46);have f:=Ct (w:=w) (cs:=#[aA a.aa,aA a.name,aB j i ca]) (ds:=#[aA b.aa,aA b.name,aB k lb cb]) (T:=46) (U:=46);have c0:=f.1 0;have n:=f.1 1;have o:=f.2 0;have p:=f.2 1;simp only[aK,aJ,aL]at c0 n o p;clear f;have c:=Ab (show blockLt a b=(decide (a.aa.toList<b.aa.toList) || (decide (a.aa.toList=b.aa.toList)&&decide (a.name.toList<b.name.toList))) from rfl);generalize blockLt a b=LT at *;generalize a.aa=g at *;generalize a.name=q at *;generalize b.aa=bk at *;generalize b.name=bn at *;have m:=Ji g.toList bk.toList;by_cases h1:g.toList<bk.toList
 ·have h:=Ab (show true=LT by rw[c.out];simp[h1]);rw[decide_eq_true h1]at m;clear c h1;go_enter func59,ntmps59;go_wp2;go_ret;exact⟨As h.out,l⟩
 ·rw[decide_eq_false h1]at m;by_cases d:g.toList=bk.toList
  ·have r:(g.toList==bk.toList)=true:=by rw[beq_iff_eq];exact d
   have h:=Ab (show cm q.toList bn.toList=LT by rw[Ji,c.out,decide_eq_false h1,decide_eq_true d];simp);clear c h1 d;go_enter func59,ntmps59;go_wp2;go_ret;exact⟨As h.out,l⟩
  ·have r:(g.toList==bk.toList)=false:=by rw[beq_eq_false_iff_ne];exact d
   have h:=Ab (show false=LT by rw[c.out];simp[h1,d]);clear c h1 d;go_enter func59,ntmps59;go_wp2;go_ret;exact⟨As h.out,l⟩
variable {β:Type}
theorem OB{f:α->β}{xs ys:List α}(h:xs.map f=ys.map f){x:α}(a:x∈xs):∃y∈ys,f y=f x:=by
 have:f x∈ys.map f:=by rw[<-h];exact List.mem_map_of_mem a
 obtain⟨y,b,e⟩:=bJ.1 this;exact⟨y,b,e⟩
theorem OC{f:α->β}{xs ys:List α}(h:xs.map f=ys.map f):xs.length=ys.length:=by
 have:=congrArg List.length h;simpa using this
theorem Aj.same{xs ys:List LAt}(h:Aj ys)(a:xs.map LAt.I=ys.map LAt.I):Aj xs:=by
 refine⟨by rw[OC a];exact h.1,fun x b=>?_⟩;obtain⟨y,c,e⟩:=OB a b;have:=h.2 y c;simp only[LAt.I,PLine.mk.injEq]at e;rw[<-e.2];exact this
theorem A3.same{xs ys:List BAt}(h:A3 ys)(a:xs.map BAt.I=ys.map BAt.I):A3 xs:=by
 refine⟨by rw[OC a];exact h.1,fun x b=>?_⟩;obtain⟨y,c,e⟩:=OB a b;have:=h.2 y c;simp only[BAt.I,PBlock.mk.injEq]at e;exact⟨by rw[<-e.2.1];exact this.1,this.2.same e.2.2.symm⟩
open Go.Shelf in
shelf_lay Lays.n219 Nm 219 at Tryz as Tryz.slIndex
theorem SC(s:ByteArray)(w:World):Calls prog 229 #[aA s,aA ⟨#[10]⟩] w fun e w'=>e=aF (.int .i64 (aZ s.data.toList 10))/\w'=w:=Any.stringslite_Index_one Tryz.slIndex s 10 w
theorem index_cases(l:List UInt8):(aZ l 10=-1/\(10:UInt8) ∉ l)\/∃i:Nat,aZ l 10=(i:Int)/\i<l.length/\l=l.take i++10::l.drop (i+1)/\(10:UInt8) ∉ l.take i:=by
 by_cases h:aZ l 10=-1
 ·refine .inl ⟨h,fun a=>?_⟩;obtain⟨k,b,e⟩:=bZ.1 a;exact Lib.indexByte_none h k (by rw[bV b,e])
 ·have j:=Lib.indexByte_ge l 10;obtain⟨i,c⟩:∃i:Nat,aZ l 10=(i:Int):=⟨(aZ l 10).toNat,by omega⟩;obtain⟨h1,f⟩:=Lib.indexByte_some c;have d:=(aH.1 h1).1;refine .inr ⟨i,c,d,?_,fun a=>?_⟩
  ·have g:=(aH.1 h1).2
   conv=>lhs;rw[<-aT i l,aM d,g]
  ·obtain⟨k,b,e⟩:=bZ.1 a;rw[aV]at b;rw[List.getElem_take]at e;exact f k (by omega) (by rw[bV (by omega),e])
def MJ(s:ByteArray)(w:World)(e:Ending)(w':World):Prop:=∃(x y:ByteArray) (b:Bool),e=aF (co #[aA x,aA y,.bool b])/\MI s.data.toList x.data.toList y.data.toList/\Below w.heap.size w w'
theorem SD(s:ByteArray)(i:Nat)(_:i<s.size):(s.extract 0 i).data.toList=s.data.toList.take i:=by simp
theorem YX(s:ByteArray)(i:Nat):(s.extract i s.size).data.toList=s.data.toList.drop i:=by
 rw[ByteArray.data_extract,Array.toList_extract];have:s.data.toList.length=s.size:=by simp
 rw[List.extract_eq_take_drop,<-this];simp[aU]
theorem Xj(s:ByteArray)(w:World)(k:s.size<=1048576):Calls prog 254 #[aA s,aA ⟨#[10]⟩] w fun e w'=>MJ s w e w':=by
 have c:=fun W=>SC s W
 rcases index_cases s.data.toList with ⟨h1,a⟩|⟨i,h1,a,f,g⟩
 ·have b:MJ s w (aF (co #[aA s,aA ⟨#[]⟩,.bool false])) w:=⟨s,⟨#[]⟩,false,rfl,.inl ⟨a,rfl,rfl⟩,aO _ _⟩;have d:=Ab b;rw[h1]at c;clear b a h1;go_enter func254,ntmps254;go_wp2_with (go_at_call 229;refine(c _).mono ?_;rintro e w' ⟨rfl,rfl⟩)
  go_ret3
  exact d.out
 ·have h:s.data.toList.length=s.size:=by simp
  rw[h]at a;have l:(0:Int)<=(i:Int):=by omega
  have c2:(i:Int)<=(s.size:Int):=by omega
  have c3:(0:Int)<=(i:Int)+1:=by omega
  have c4:(i:Int)+1<=(s.size:Int):=by omega
  have c5:((i:Int)+1).toNat=i+1:=by omega
  have m:bW.wrap ((i:Int)+1)=(i:Int)+1:=by rw[bI];omega
  rw[h1]at c;have b:=fun w' (j:Below w.heap.size w w')=>(show MJ s w (aF (co #[aA (s.extract 0 i),aA (s.extract (i+1) s.size),.bool true])) w' from⟨_,_,_,rfl,.inr ⟨by rw[SD s i a,YX];exact f,by rw[SD s i a];exact g⟩,j⟩)
  have d:=Ab b;clear b f g h1 h;go_enter func254,ntmps254;go_wp2_with (go_at_call 229;refine(c _).mono ?_;rintro e w' ⟨rfl,rfl⟩)
  go_region
  go_wp2;go_ret3
  exact d.out _ (aO _ _).drew
theorem UL(s:ByteArray)(w:World)(d:s.size<=1048576):Calls prog 230 #[aA s,aA ⟨#[10]⟩] w fun e w'=>MJ s w e w':=by
 have a:=Xj s w d;go_enter func230,ntmps230;go_wp2_with (go_at_call 254;refine a.mono ?_)
 rintro e w' ⟨x,y,b,rfl,h1,c⟩;have f:=Ab (show MJ s w (aF (co #[aA x,aA y,.bool b])) w' from⟨x,y,b,rfl,h1,c⟩);clear a h1 c;go_wp2;go_ret3
 exact f.out
