import Derived.Test.YtpdahhnjhggocaaGreatDoorMu6
import Derived.Sort.Grow
import Derived.Shelf.Lay
import Derived.Ground.NamesProg
import Derived.Shelf.Strings.Search2
import Derived.Shelf.RegionOpenPlain
import Derived.Lib.IndexLaws
open Go.Proofs.Tryz
open Go.Value renaming string->ab,slice->ap,tuple->aB
open List renaming drop_eq_getElem_cons->ac,flatMap_cons->ag,drop_length->ah,take_succ_eq_append_getElem->ai,getElem?_eq_some_iff->aj,getElem?_eq_getElem->ak,take_of_length_le->an,mem_iff_getElem->aq,take_succ_cons->ar,drop_succ_cons->au
open Go.Ending renaming returned->ad
open Go.ByteArray renaming toList_eq->ae
open Go.Lib renaming indexByte->af
open Nat renaming add_assoc->al,add_sub_cancel_left->am,succ_mul->az,le_trans->aA
open Go.RowKit.Below renaming refl->av
open ByteArray renaming mk->aw
open Option renaming some->ax,none->ay
namespace Go.Proofs.YtpdahhnjhggocaaGreatDoor
open Go.RowKit
set_option maxHeartbeats 16000000
set_option maxRecDepth 100000
variable {w w':World}{v:Value}{α:Type}{ao:Option Addr}{n m:Nat}
structure LAt where
 key:ByteArray
 v:Value
 ws:List (List UInt8)
def LAt.cells(x:LAt):List Value:=[ab x.key,x.v]
def LAt.I(x:LAt):PLine:=⟨x.key,x.ws⟩
structure BAt where
 aa:ByteArray
 name:ByteArray
 v:Value
 ls:List LAt
def BAt.cells(x:BAt):List Value:=[ab x.aa,ab x.name,x.v]
def BAt.I(x:BAt):PBlock:=⟨x.aa,x.name,x.ls.map LAt.I⟩
def BL(w:World)(x:LAt):Prop:=Ap w x.v x.ws.length 1 (strs x.ws)
def An(w:World)(v:Value)(ls:List LAt):Prop:=Ap w v ls.length 2 (ls.flatMap LAt.cells)/\∀x∈ls,BL w x
def AH(w:World)(b:BAt):Prop:=An w b.v b.ls
def As(w:World)(v:Value)(bs:List BAt):Prop:=Ap w v bs.length 3 (bs.flatMap BAt.cells)/\∀b∈bs,AH w b
theorem BL.V{x:LAt}(h:BL w x)(a:Below w.heap.size w w'):BL w' x:=Ap.V h a
theorem An.V{ls:List LAt}(h:An w v ls)(a:Below w.heap.size w w'):An w' v ls:=⟨h.1.V a,fun x b=>(h.2 x b).V a⟩
theorem AH.V{b:BAt}(h:AH w b)(a:Below w.heap.size w w'):AH w' b:=An.V h a
theorem As.V{bs:List BAt}(h:As w v bs)(a:Below w.heap.size w w'):As w' v bs:=⟨h.1.V a,fun x b=>(h.2 x b).V a⟩
theorem Bn(f:α->List Value)(k:Nat)(b:∀x,(f x).length=k)(L:List α):(L.flatMap f).length=L.length*k:=by
 induction L with
 | nil=>simp
 | cons a M c=>rw[ag,List.length_append,c,b,List.length_cons,az];omega
theorem C8(f:α->List Value)(k:Nat)(a:∀x,(f x).length=k)(D T:List α)(r:α)(c:Nat)(b:c<k):((D++r::T).flatMap f)[D.length*k+c]?=(f r)[c]?:=by
 rw[List.flatMap_append,ag,List.getElem?_append_right (by rw[Bn f k a];omega),Bn f k a,am,List.getElem?_append_left (by rw[a];omega)]
theorem Pp(f:α->List Value)(k:Nat)(b:∀x,(f x).length=k)(L:List α)(n:Nat):(L.flatMap f).take (n*k)=(L.take n).flatMap f:=by
 induction n generalizing L with
 | zero=>simp
 | succ n c =>
  cases L with
  | nil=>simp
  | cons a L=>rw[ag,ar,ag,az,Nat.add_comm,List.take_append,b,am,c,an (by rw[b];omega)]
theorem LAt.len(x:LAt):x.cells.length=2:=rfl
theorem BAt.len(x:BAt):x.cells.length=3:=rfl
theorem Ap.line{cap:Nat}{D T:List LAt}{x:LAt}(h:Ap w (ap ao m cap) n 2 ((D++x::T).flatMap LAt.cells)):∃b off,ao=ax ⟨b,off,ay⟩/\w.cell? ⟨b,off+D.length*2,ay⟩=ax (ab x.key)/\w.cell? ⟨b,off+D.length*2+1,ay⟩=ax x.v:=by
 have c:0<n:=by have:=h.1;rw[Bn _ 2 LAt.len]at this;simp at this;omega
 obtain⟨b,off,d,a⟩:=h.at c;refine⟨b,off,d,?_,?_⟩
 ·have:=a (D.length*2+0) (ab x.key) (by rw[C8 _ 2 LAt.len _ _ _ 0 (by decide)];rfl);simpa using this
 ·have:=a (D.length*2+1) x.v (by rw[C8 _ 2 LAt.len _ _ _ 1 (by decide)];rfl);rw[<-al]at this;exact this
theorem Ap.block{cap:Nat}{D T:List BAt}{x:BAt}(h:Ap w (ap ao m cap) n 3 ((D++x::T).flatMap BAt.cells)):∃b off,ao=ax ⟨b,off,ay⟩/\w.cell? ⟨b,off+D.length*3,ay⟩=ax (ab x.aa)/\w.cell? ⟨b,off+D.length*3+1,ay⟩=ax (ab x.name)/\w.cell? ⟨b,off+D.length*3+2,ay⟩=ax x.v:=by
 have c:0<n:=by have:=h.1;rw[Bn _ 3 BAt.len]at this;simp at this;omega
 obtain⟨b,off,d,a⟩:=h.at c;refine⟨b,off,d,?_,?_,?_⟩
 ·have:=a (D.length*3+0) (ab x.aa) (by rw[C8 _ 3 BAt.len _ _ _ 0 (by decide)];rfl);simpa using this
 ·have:=a (D.length*3+1) (ab x.name) (by rw[C8 _ 3 BAt.len _ _ _ 1 (by decide)];rfl);rw[<-al]at this;exact this
 ·have:=a (D.length*3+2) x.v (by rw[C8 _ 3 BAt.len _ _ _ 2 (by decide)];rfl);rw[<-al]at this;exact this
def AZ(w w':World):Prop:=Below w.heap.size w w'/\w.drawn<=w'.drawn
theorem AZ.refl(w:World):AZ w w:=⟨av _ _,Nat.le_refl _⟩
theorem AZ.trans{a b c:World}(h:AZ a b)(k:AZ b c):AZ a c:=⟨h.1.trans (k.1.mono h.1.size),aA h.2 k.2⟩
theorem AZ.alloc(h:AZ w w')(o:Obj):AZ w (w'.alloc o):=⟨h.1.alloc h.1.size o,h.2⟩
theorem AZ.drewN(h:AZ w w')(n:Nat):AZ w (w'.drewN n):=⟨⟨h.1.os,h.1.tape,h.1.output,h.1.size,h.1.block⟩,aA h.2 (Nat.le_add_right _ _)⟩
theorem AZ.grow(h:AZ w w'):∃q os,w'=Sort.grow (w.drewN q) os:=by
 obtain⟨⟨h1,a,b,e,c⟩,f⟩:=h;refine⟨w'.drawn-w.drawn,w'.heap.extract w.heap.size w'.heap.size,?_⟩;obtain⟨heap,j,k,os,l⟩:=w;obtain⟨g,m,n,o,p⟩:=w';simp only at h1 a b e c f;subst h1 a b;simp only[Sort.grow,World.drewN,World.mk.injEq,true_and,and_true];refine⟨?_,by omega⟩;apply Array.ext_getElem?;intro i;by_cases d:i<heap.size
 ·rw[Array.getElem?_append_left d];exact c i d
 ·rw[Array.getElem?_append_right (by omega),Array.getElem?_extract];by_cases r:i<g.size
  ·rw[if_pos (by omega),show heap.size+(i-heap.size)=i by omega]
  ·rw[Array.getElem?_eq_none (by omega),if_neg (by omega)]
variable {ys:List (List UInt8)}{k ca cb:Nat}{bo:Option Addr}
open Go.Shelf in
shelf_lay Lays.n106 Nm 106 at Tryz as Tryz.strCmp
theorem Nb(a b:ByteArray)(w:World):Calls prog 116 #[ab a,ab b] w fun e w'=>e=ad (.int .i64 (DV a.toList b.toList))/\w'=w:=by
 have h:=Any.strings_Compare Tryz.strCmp a b w;rw[MM]at h;rw[ae,ae];exact h
theorem GG(x:Int)(w:World):Calls prog 202 #[.int .i64 x] w fun e w'=>e=ad (.bool false)/\w'=w:=by
 go_enter func202,ntmps202;go_wp2;go_ret;exact⟨by simp,rfl⟩
theorem GH(x:ByteArray)(w:World):Calls prog 238 #[ab x] w fun e w'=>e=ad (.bool false)/\w'=w:=by
 go_enter func238,ntmps238;go_wp2;go_ret;exact⟨by simp,rfl⟩
def Ac1(x y:Int):Int:=if x<y then -1 else if y<x then 1 else 0
theorem Nc(x y:Int)(w:World):Calls prog 148 #[.int .i64 x,.int .i64 y] w fun e w'=>e=ad (.int .i64 (Ac1 x y))/\w'=w:=by
 unfold Ac1;by_cases h1:x<y
 ·rw[if_pos h1];go_enter func148,ntmps148;go_wp2_with (go_at_call 202;refine(GG _ _).mono ?_;rintro e w ⟨rfl,rfl⟩)
  go_ret;exact⟨rfl,rfl⟩
 ·rw[if_neg h1];by_cases a:y<x
  ·rw[if_pos a];go_enter func148,ntmps148;go_wp2_with (go_at_call 202;refine(GG _ _).mono ?_;rintro e w ⟨rfl,rfl⟩)
   go_ret;exact⟨rfl,rfl⟩
  ·rw[if_neg a];go_enter func148,ntmps148;go_wp2_with (go_at_call 202;refine(GG _ _).mono ?_;rintro e w ⟨rfl,rfl⟩)
   go_ret;exact⟨rfl,rfl⟩
def cmpS(x y:List UInt8):Int:=if x<y then -1 else if y<x then 1 else 0
theorem Nd(x y:ByteArray)(w:World):Calls prog 205 #[ab x,ab y] w fun e w'=>e=ad (.int .i64 (cmpS x.toList y.toList))/\w'=w:=by
 unfold cmpS;have b:=Jo x.toList y.toList;by_cases h1:x.toList<y.toList
 ·rw[decide_eq_true h1]at b;rw[if_pos h1];clear h1;go_enter func205,ntmps205;go_wp2_with (go_at_call 238;refine(GH _ _).mono ?_;rintro e w ⟨rfl,rfl⟩)
  go_ret;exact⟨rfl,rfl⟩
 ·rw[decide_eq_false h1]at b;rw[if_neg h1];by_cases a:y.toList<x.toList
  ·have c:(x.toList==y.toList)=false:=by rw[beq_eq_false_iff_ne];exact fun e=>FJ.irr _ (e▸a)
   rw[if_pos a];clear h1 a;go_enter func205,ntmps205;go_wp2_with (go_at_call 238;refine(GH _ _).mono ?_;rintro e w ⟨rfl,rfl⟩)
   go_ret;exact⟨rfl,rfl⟩
  ·have c:(x.toList==y.toList)=true:=by rw[beq_iff_eq];exact FJ.tri _ _ h1 a
   rw[if_neg a];clear h1 a;go_enter func205,ntmps205;go_wp2_with (go_at_call 238;refine(GH _ _).mono ?_;rintro e w ⟨rfl,rfl⟩)
   go_ret;exact⟨rfl,rfl⟩
def orI(a b:Int):Int:=if a=0 then b else a
theorem K6(a b:Int)(g:Nat)(w:World)(h:w.cell? ⟨g,0,ay⟩=ax (.int .i64 a))(h1:w.cell? ⟨g,1,ay⟩=ax (.int .i64 b)):Calls prog 115 #[ap (ax ⟨g,0,ay⟩) 2 2] w fun e w'=>e=ad (.int .i64 (orI a b))/\w'=w:=by
 unfold orI;by_cases c:a=0
 ·subst c;rw[if_pos rfl];by_cases d:b=0
  ·subst d;go_enter func115,ntmps115;go_wp2;go_loop [8] (fun i=>∃k:Nat,k<=2/\i=.int .i64 (k:Int)) (fun i=>2-(intOf i).toNat)
   case atStart=>exact⟨0,by omega,rfl⟩
   case round =>
    obtain⟨k,f,rfl⟩:=hrel;rcases(show k=0\/k=1\/k=2 by omega) with rfl | rfl | rfl
    ·go_wp2;go_round
     case rel=>exact⟨1,by omega,rfl⟩
     case measure=>simp[intOf]
    ·go_wp2;go_round
     case rel=>exact⟨2,by omega,rfl⟩
     case measure=>simp[intOf]
    ·go_wp2;go_ret;exact⟨rfl,rfl⟩
  ·go_enter func115,ntmps115;go_wp2;go_loop [8] (fun i=>∃k:Nat,k<=1/\i=.int .i64 (k:Int)) (fun i=>2-(intOf i).toNat)
   case atStart=>exact⟨0,by omega,rfl⟩
   case round =>
    obtain⟨k,f,rfl⟩:=hrel;rcases(show k=0\/k=1 by omega) with rfl | rfl
    ·go_wp2;go_round
     case rel=>exact⟨1,by omega,rfl⟩
     case measure=>simp[intOf]
    ·go_wp2;go_ret;exact⟨rfl,rfl⟩
 ·rw[if_neg c];go_enter func115,ntmps115;go_wp2;go_loop [8] (fun i=>i=.int .i64 0) (fun _=>0)
  case atStart=>rfl
  case round =>
   subst hrel;go_wp2;go_ret;exact⟨rfl,rfl⟩
def Dq(xs ys:List (List UInt8))(k:Nat):Prop:=k<=ys.length/\xs.take k=ys.take k
theorem Ie{xs:List (List UInt8)}(h:xs.take k=ys.take k)(a:k<=xs.length)(b:k<=ys.length):DV xs ys=DV (xs.drop k) (ys.drop k):=by
 induction k generalizing xs ys with
 | zero=>simp
 | succ k c =>
  match xs,ys,a,b with
  | x::xs,y::ys,a,b =>
   simp only[ar,List.cons.injEq]at h;obtain⟨rfl,h⟩:=h;rw[au,au,<-c h (by simpa using a) (by simpa using b)];rw[DV,if_neg (FJ.irr _),if_neg (FJ.irr _)]
theorem Dq.zero(xs ys:List (List UInt8)):Dq xs ys 0:=⟨Nat.zero_le _,by simp⟩
theorem XM{x y:List UInt8}(h:cmpS x y=0):x=y:=by
 unfold cmpS at h;by_cases h1:x<y
 ·rw[if_pos h1]at h;cases h
 ·rw[if_neg h1]at h;by_cases a:y<x
  ·rw[if_pos a]at h;cases h
  ·exact FJ.tri _ _ h1 a
theorem Dq.succ{xs:List (List UInt8)}(h:Dq xs ys k)(h1:k<xs.length)(a:k<ys.length)(e:cmpS xs[k] ys[k]=0):Dq xs ys (k+1):=by
 refine⟨a,?_⟩;rw[ai h1,ai a,h.2,XM e]
theorem Dq.parts{xs:List (List UInt8)}(h:Dq xs ys k)(h1:k<xs.length)(c:k<ys.length)(e:cmpS xs[k] ys[k]≠0):cmpS xs[k] ys[k]=DV xs ys:=by
 rw[Ie h.2 (by omega) h.1,ac h1,ac c,DV];unfold cmpS at e⊢;by_cases a:xs[k]<ys[k]
 ·rw[if_pos a,if_pos a]
 ·rw[if_neg a]at e⊢;by_cases b:ys[k]<xs[k]
  ·rw[if_pos b,if_neg a,if_pos b]
  ·rw[if_neg b]at e;exact absurd rfl e
theorem Dq.more{xs:List (List UInt8)}(h:Dq xs ys k)(h1:k<xs.length)(a:¬k<ys.length):(1:Int)=DV xs ys:=by
 have:k=ys.length:=by have:=h.1;omega
 subst this;rw[Ie h.2 (by omega) h.1,ac h1,ah];rfl
theorem Dq.less{xs:List (List UInt8)}(h:Dq xs ys xs.length)(a:xs.length<ys.length):(-1:Int)=DV xs ys:=by
 rw[Ie h.2 (by omega) h.1,ac a,ah];rfl
theorem Dq.end{xs:List (List UInt8)}(h:Dq xs ys xs.length)(a:¬xs.length<ys.length):(0:Int)=DV xs ys:=by
 have:xs.length=ys.length:=by have:=h.1;omega
 rw[Ie h.2 (by omega) h.1,ah,this,ah];rfl
theorem J0{xs:List (List UInt8)}(h1:Ap w (ap ao n ca) xs.length 1 (strs xs))(f:Ap w (ap bo m cb) ys.length 1 (strs ys))(s:n<=1048576)(t:m<=1048576):Calls prog 150 #[ap ao n ca,ap bo m cb] w fun e w'=>e=ad (.int .i64 (DV xs ys))/\w'=w:=by
 have d:=Aa (show n=xs.length by obtain⟨_,_,_,e,_⟩:=h1;cases e;rfl);have g:=Aa (show m=ys.length by obtain⟨_,_,_,e,_⟩:=f;cases e;rfl);go_enter func150,ntmps150;go_wp2;go_loop [11] (fun i=>∃k:Nat,k<=n/\i=.int .i64 (k:Int)/\Dq xs ys k) (fun i=>n-(intOf i).toNat)
 case atStart=>exact⟨0,by omega,rfl,Dq.zero _ _⟩
 case round =>
  obtain⟨k,u,rfl,a⟩:=hrel;by_cases v:k<n
  ·have p:k<xs.length:=by have:=d.out;omega
   obtain⟨b,off,rfl,z⟩:=h1.word k p;by_cases A:k<m
   ·have q:k<ys.length:=by have:=g.out;omega
    obtain⟨B,C,rfl,c2⟩:=f.word k q;have j:=fun W=>Nd ⟨xs[k].toArray⟩ ⟨ys[k].toArray⟩ W
    have l:(aw xs[k].toArray).toList=xs[k]:=by rw[ae]
    have o:(aw ys[k].toArray).toList=ys[k]:=by rw[ae]
    rw[l,o]at j;by_cases h:cmpS xs[k] ys[k]=0
    ·have c:=a.succ (by have:=d.out;omega) (by have:=g.out;omega) h;rw[h]at j;generalize (⟨xs[k].toArray⟩:ByteArray)=x at *;generalize (⟨ys[k].toArray⟩:ByteArray)=y at *;clear a h1 f h l o;go_wp2_with (go_at_call 205;refine(j _).mono ?_;rintro e w ⟨rfl,rfl⟩)
     go_round
     case rel=>exact⟨k+1,by omega,by go_num,c⟩
     case measure=>simp[intOf];omega
    ·have c:=Aa (a.parts (by have:=d.out;omega) (by have:=g.out;omega) h);have D:(cmpS xs[k] ys[k] != 0)=true:=by rw[bne_iff_ne];exact h
     generalize cmpS xs[k] ys[k]=r at *;generalize (⟨xs[k].toArray⟩:ByteArray)=x at *;generalize (⟨ys[k].toArray⟩:ByteArray)=y at *;clear a h1 f h l o;go_wp2_with (go_at_call 205;refine(j _).mono ?_;rintro e w ⟨rfl,rfl⟩)
     go_ret;exact⟨Cz c.out,rfl⟩
   ·have c:=Aa (a.more (by have:=d.out;omega) (by have:=g.out;omega));clear a h1 f;go_wp2;go_ret;exact⟨Cz c.out,rfl⟩
  ·obtain rfl:k=n:=by omega
   by_cases E:k<m
   ·have c:=Aa (Dq.less (d.out▸a) (by have:=d.out;have:=g.out;omega));clear a h1 f;go_wp2;go_ret;exact⟨Cz c.out,rfl⟩
   ·have c:=Aa (Dq.end (d.out▸a) (by have:=d.out;have:=g.out;omega));clear a h1 f;go_wp2;go_ret;exact⟨Cz c.out,rfl⟩
open Go.Shelf in
shelf_lay Lays.n219 Nm 219 at Tryz as Tryz.slIndex
theorem Tl(s:ByteArray)(w:World):Calls prog 229 #[ab s,ab ⟨#[10]⟩] w fun e w'=>e=ad (.int .i64 (af s.data.toList 10))/\w'=w:=Any.stringslite_Index_one Tryz.slIndex s 10 w
theorem index_cases(l:List UInt8):(af l 10=-1/\(10:UInt8) ∉ l)\/∃i:Nat,af l 10=(i:Int)/\i<l.length/\l=l.take i++10::l.drop (i+1)/\(10:UInt8) ∉ l.take i:=by
 by_cases h:af l 10=-1
 ·refine .inl ⟨h,fun a=>?_⟩;obtain⟨k,b,e⟩:=aq.1 a;exact Lib.indexByte_none h k (by rw[ak b,e])
 ·have j:=Lib.indexByte_ge l 10;obtain⟨i,c⟩:∃i:Nat,af l 10=(i:Int):=⟨(af l 10).toNat,by omega⟩;obtain⟨h1,f⟩:=Lib.indexByte_some c;have d:=(aj.1 h1).1;refine .inr ⟨i,c,d,?_,fun a=>?_⟩
  ·have g:=(aj.1 h1).2
   conv=>lhs;rw[<-List.take_append_drop i l,ac d,g]
  ·obtain⟨k,b,e⟩:=aq.1 a;rw[List.length_take]at b;rw[List.getElem_take]at e;exact f k (by omega) (by rw[ak (by omega),e])
def Nv(s:ByteArray)(w:World)(e:Ending)(w':World):Prop:=∃(x y:ByteArray) (b:Bool),e=ad (aB #[ab x,ab y,.bool b])/\Nu s.data.toList x.data.toList y.data.toList/\Below w.heap.size w w'
theorem Tm(s:ByteArray)(i:Nat)(_:i<s.size):(s.extract 0 i).data.toList=s.data.toList.take i:=by simp
theorem ZT(s:ByteArray)(i:Nat):(s.extract i s.size).data.toList=s.data.toList.drop i:=by
 rw[ByteArray.data_extract,Array.toList_extract];have:s.data.toList.length=s.size:=by simp
 rw[List.extract_eq_take_drop,<-this];simp[an]
theorem XX(s:ByteArray)(w:World)(k:s.size<=1048576):Calls prog 254 #[ab s,ab ⟨#[10]⟩] w fun e w'=>Nv s w e w':=by
 have c:=fun W=>Tl s W
 rcases index_cases s.data.toList with ⟨h1,a⟩ | ⟨i,h1,a,f,g⟩
 ·have b:Nv s w (ad (aB #[ab s,ab ⟨#[]⟩,.bool false])) w:=⟨s,⟨#[]⟩,false,rfl,.inl ⟨a,rfl,rfl⟩,av _ _⟩;have d:=Aa b;rw[h1]at c;clear b a h1;go_enter func254,ntmps254;go_wp2_with (go_at_call 229;refine(c _).mono ?_;rintro e w' ⟨rfl,rfl⟩)
  go_ret3
  exact d.out
 ·have h:s.data.toList.length=s.size:=by simp
  rw[h]at a;have l:(0:Int)<=(i:Int):=by omega
  have c2:(i:Int)<=(s.size:Int):=by omega
  have c3:(0:Int)<=(i:Int)+1:=by omega
  have c4:(i:Int)+1<=(s.size:Int):=by omega
  have c5:((i:Int)+1).toNat=i+1:=by omega
  have m:IntKind.i64.wrap ((i:Int)+1)=(i:Int)+1:=by rw[IntKind.wrap_i64];omega
  rw[h1]at c;have b:=fun w' (j:Below w.heap.size w w')=>(show Nv s w (ad (aB #[ab (s.extract 0 i),ab (s.extract (i+1) s.size),.bool true])) w' from⟨_,_,_,rfl,.inr ⟨by rw[Tm s i a,ZT];exact f,by rw[Tm s i a];exact g⟩,j⟩)
  have d:=Aa b;clear b f g h1 h;go_enter func254,ntmps254;go_wp2_with (go_at_call 229;refine(c _).mono ?_;rintro e w' ⟨rfl,rfl⟩)
  go_region
  go_wp2;go_ret3
  exact d.out _ (av _ _).drew
theorem Vo(s:ByteArray)(w:World)(d:s.size<=1048576):Calls prog 230 #[ab s,ab ⟨#[10]⟩] w fun e w'=>Nv s w e w':=by
 have a:=XX s w d;go_enter func230,ntmps230;go_wp2_with (go_at_call 254;refine a.mono ?_)
 rintro e w' ⟨x,y,b,rfl,h1,c⟩;have f:=Aa (show Nv s w (ad (aB #[ab x,ab y,.bool b])) w' from⟨x,y,b,rfl,h1,c⟩);clear a h1 c;go_wp2;go_ret3
 exact f.out
