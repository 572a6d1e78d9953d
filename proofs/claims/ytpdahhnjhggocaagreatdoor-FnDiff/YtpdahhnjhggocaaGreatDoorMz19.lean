import Derived.Test.YtpdahhnjhggocaaGreatDoorMz16
import Derived.Shelf.Small.Strs
import Derived.Shelf.Lay
import Derived.Ground.NamesProg
namespace Go.Proofs.YtpdahhnjhggocaaGreatDoor
open Go.RowKit
set_option maxHeartbeats 16000000
set_option maxRecDepth 100000
variable {ys:List (List UInt8)}{k n m ca cb:Nat}{ao bo:Option Addr}{w:World}
open Go.Shelf in
shelf_lay Lays.n106 Nm 106 at Tryz as Tryz.strCmp
theorem P1(a b:ByteArray)(w:World):Calls Tryz.prog 116 #[.string a,.string b] w fun e w'=>e=.returned (.int .i64 (Ga a.toList b.toList))∧w'=w:=by
 have h:=Any.strings_Compare Tryz.strCmp a b w;rw[Pw]at h;rw[ByteArray.toList_eq,ByteArray.toList_eq];exact h
theorem Jp(x:Int)(w:World):Calls Tryz.prog 202 #[.int .i64 x] w fun e w'=>e=.returned (.bool false)∧w'=w:=by
 go_enter Tryz.func202,Tryz.ntmps202;go_wp2;go_ret;exact⟨by simp,rfl⟩
theorem Jq(x:ByteArray)(w:World):Calls Tryz.prog 238 #[.string x] w fun e w'=>e=.returned (.bool false)∧w'=w:=by
 go_enter Tryz.func238,Tryz.ntmps238;go_wp2;go_ret;exact⟨by simp,rfl⟩
def Af5(x y:Int):Int:=if x<y then -1 else if y<x then 1 else 0
theorem P2(x y:Int)(w:World):Calls Tryz.prog 148 #[.int .i64 x,.int .i64 y] w fun e w'=>e=.returned (.int .i64 (Af5 x y))∧w'=w:=by
 unfold Af5;by_cases h1:x<y
 ·rw[if_pos h1];go_enter Tryz.func148,Tryz.ntmps148;go_wp2_with (go_at_call 202;refine(Jp _ _).mono ?_;rintro e w ⟨rfl,rfl⟩)
  go_ret;exact⟨rfl,rfl⟩
 ·rw[if_neg h1];by_cases h2:y<x
  ·rw[if_pos h2];go_enter Tryz.func148,Tryz.ntmps148;go_wp2_with (go_at_call 202;refine(Jp _ _).mono ?_;rintro e w ⟨rfl,rfl⟩)
   go_ret;exact⟨rfl,rfl⟩
  ·rw[if_neg h2];go_enter Tryz.func148,Tryz.ntmps148;go_wp2_with (go_at_call 202;refine(Jp _ _).mono ?_;rintro e w ⟨rfl,rfl⟩)
   go_ret;exact⟨rfl,rfl⟩
def cmpS(x y:List UInt8):Int:=if x<y then -1 else if y<x then 1 else 0
theorem P4(x y:ByteArray)(w:World):Calls Tryz.prog 205 #[.string x,.string y] w fun e w'=>e=.returned (.int .i64 (cmpS x.toList y.toList))∧w'=w:=by
 unfold cmpS;have e1:=L6 x.toList y.toList;by_cases h1:x.toList<y.toList
 ·rw[decide_eq_true h1]at e1;rw[if_pos h1];clear h1;go_enter Tryz.func205,Tryz.ntmps205;go_wp2_with (go_at_call 238;refine(Jq _ _).mono ?_;rintro e w ⟨rfl,rfl⟩)
  go_ret;exact⟨rfl,rfl⟩
 ·rw[decide_eq_false h1]at e1;rw[if_neg h1];by_cases h2:y.toList<x.toList
  ·have e2:(x.toList == y.toList)=false:=by rw[beq_eq_false_iff_ne];exact fun e=>Jj.irr _ (e ▸ h2)
   rw[if_pos h2];clear h1 h2;go_enter Tryz.func205,Tryz.ntmps205;go_wp2_with (go_at_call 238;refine(Jq _ _).mono ?_;rintro e w ⟨rfl,rfl⟩)
   go_ret;exact⟨rfl,rfl⟩
  ·have e2:(x.toList == y.toList)=true:=by rw[beq_iff_eq];exact Jj.tri _ _ h1 h2
   rw[if_neg h2];clear h1 h2;go_enter Tryz.func205,Tryz.ntmps205;go_wp2_with (go_at_call 238;refine(Jq _ _).mono ?_;rintro e w ⟨rfl,rfl⟩)
   go_ret;exact⟨rfl,rfl⟩
def orI(a b:Int):Int:=if a=0 then b else a
theorem Ni(a b:Int)(g:Nat)(w:World)(h0:w.cell? ⟨g,0,none⟩=some (.int .i64 a))(h1:w.cell? ⟨g,1,none⟩=some (.int .i64 b)):Calls Tryz.prog 115 #[.slice (some ⟨g,0,none⟩) 2 2] w fun e w'=>e=.returned (.int .i64 (orI a b))∧w'=w:=by
 unfold orI;by_cases ha:a=0
 ·subst ha;rw[if_pos rfl];by_cases hb:b=0
  ·subst hb;go_enter Tryz.func115,Tryz.ntmps115;go_wp2;go_loop [8] (fun i=>∃ k:Nat,k≤2∧i=.int .i64 (k:Int)) (fun i=>2 - (intOf i).toNat)
   case atStart=>exact⟨0,by omega,rfl⟩
   case round =>
    obtain⟨k,hk,rfl⟩:=hrel;rcases(show k=0∨k=1∨k=2 by omega) with rfl | rfl | rfl
    ·go_wp2;go_round
     case rel=>exact⟨1,by omega,rfl⟩
     case measure=>simp[intOf]
    ·go_wp2;go_round
     case rel=>exact⟨2,by omega,rfl⟩
     case measure=>simp[intOf]
    ·go_wp2;go_ret;exact⟨rfl,rfl⟩
  ·go_enter Tryz.func115,Tryz.ntmps115;go_wp2;go_loop [8] (fun i=>∃ k:Nat,k≤1∧i=.int .i64 (k:Int)) (fun i=>2 - (intOf i).toNat)
   case atStart=>exact⟨0,by omega,rfl⟩
   case round =>
    obtain⟨k,hk,rfl⟩:=hrel;rcases(show k=0∨k=1 by omega) with rfl | rfl
    ·go_wp2;go_round
     case rel=>exact⟨1,by omega,rfl⟩
     case measure=>simp[intOf]
    ·go_wp2;go_ret;exact⟨rfl,rfl⟩
 ·rw[if_neg ha];go_enter Tryz.func115,Tryz.ntmps115;go_wp2;go_loop [8] (fun i=>i=.int .i64 0) (fun _=>0)
  case atStart=>rfl
  case round =>
   subst hrel;go_wp2;go_ret;exact⟨rfl,rfl⟩
def Ey(xs ys:List (List UInt8))(k:Nat):Prop:=k≤ys.length∧xs.take k=ys.take k
theorem Kw{xs:List (List UInt8)}(h:xs.take k=ys.take k)(hk:k≤xs.length)(hy:k≤ys.length):Ga xs ys=Ga (xs.drop k) (ys.drop k):=by
 induction k generalizing xs ys with
 | zero=>simp
 | succ k ih =>
  match xs,ys,hk,hy with
  | x::xs,y::ys,hk,hy =>
   simp only[List.take_succ_cons,List.cons.injEq]at h;obtain⟨rfl,h⟩:=h;rw[List.drop_succ_cons,List.drop_succ_cons,← ih h (by simpa using hk) (by simpa using hy)];rw[Ga,if_neg (Jj.irr _),if_neg (Jj.irr _)]
theorem Ey.zero(xs ys:List (List UInt8)):Ey xs ys 0:=⟨Nat.zero_le _,by simp⟩
theorem Abu{x y:List UInt8}(h:cmpS x y=0):x=y:=by
 unfold cmpS at h;by_cases h1:x<y
 ·rw[if_pos h1]at h;cases h
 ·rw[if_neg h1]at h;by_cases h2:y<x
  ·rw[if_pos h2]at h;cases h
  ·exact Jj.tri _ _ h1 h2
theorem Ey.succ{xs:List (List UInt8)}(h:Ey xs ys k)(h1:k<xs.length)(h2:k<ys.length)(e:cmpS xs[k] ys[k]=0):Ey xs ys (k+1):=by
 refine⟨h2,?_⟩;rw[List.take_succ_eq_append_getElem h1,List.take_succ_eq_append_getElem h2,h.2,Abu e]
theorem Ey.parts{xs:List (List UInt8)}(h:Ey xs ys k)(h1:k<xs.length)(h2:k<ys.length)(e:cmpS xs[k] ys[k]≠0):cmpS xs[k] ys[k]=Ga xs ys:=by
 rw[Kw h.2 (by omega) h.1,List.drop_eq_getElem_cons h1,List.drop_eq_getElem_cons h2,Ga];unfold cmpS at e ⊢;by_cases g1:xs[k]<ys[k]
 ·rw[if_pos g1,if_pos g1]
 ·rw[if_neg g1]at e ⊢;by_cases g2:ys[k]<xs[k]
  ·rw[if_pos g2,if_neg g1,if_pos g2]
  ·rw[if_neg g2]at e;exact absurd rfl e
theorem Ey.more{xs:List (List UInt8)}(h:Ey xs ys k)(h1:k<xs.length)(h2:¬ k<ys.length):(1:Int)=Ga xs ys:=by
 have:k=ys.length:=by have:=h.1;omega
 subst this;rw[Kw h.2 (by omega) h.1,List.drop_eq_getElem_cons h1,List.drop_length];rfl
theorem Ey.less{xs:List (List UInt8)}(h:Ey xs ys xs.length)(h2:xs.length<ys.length):(-1:Int)=Ga xs ys:=by
 rw[Kw h.2 (by omega) h.1,List.drop_eq_getElem_cons h2,List.drop_length];rfl
theorem Ey.end{xs:List (List UInt8)}(h:Ey xs ys xs.length)(h2:¬ xs.length<ys.length):(0:Int)=Ga xs ys:=by
 have:xs.length=ys.length:=by have:=h.1;omega
 rw[Kw h.2 (by omega) h.1,List.drop_length,this,List.drop_length];rfl
theorem Mb{xs:List (List UInt8)}(h1:An w (.slice ao n ca) xs.length 1 (strs xs))(h2:An w (.slice bo m cb) ys.length 1 (strs ys))(hn:n≤1048576)(hm:m≤1048576):Calls Tryz.prog 150 #[.slice ao n ca,.slice bo m cb] w fun e w'=>e=.returned (.int .i64 (Ga xs ys))∧w'=w:=by
 have en:=Aa (show n=xs.length by obtain⟨_,_,_,e,_⟩:=h1;cases e;rfl);have em:=Aa (show m=ys.length by obtain⟨_,_,_,e,_⟩:=h2;cases e;rfl);go_enter Tryz.func150,Tryz.ntmps150;go_wp2;go_loop [11] (fun i=>∃ k:Nat,k≤n∧i=.int .i64 (k:Int)∧Ey xs ys k) (fun i=>n - (intOf i).toNat)
 case atStart=>exact⟨0,by omega,rfl,Ey.zero _ _⟩
 case round =>
  obtain⟨k,hk,rfl,hA⟩:=hrel;by_cases hlt:k<n
  ·have lk:k<xs.length:=by have:=en.out;omega
   obtain⟨b,off,rfl,c1⟩:=h1.word k lk;by_cases hlt2:k<m
   ·have lk2:k<ys.length:=by have:=em.out;omega
    obtain⟨b2,off2,rfl,c2⟩:=h2.word k lk2;have H:=fun W=>P4 ⟨xs[k].toArray⟩ ⟨ys[k].toArray⟩ W
    have e1:(ByteArray.mk xs[k].toArray).toList=xs[k]:=by rw[ByteArray.toList_eq]
    have e2:(ByteArray.mk ys[k].toArray).toList=ys[k]:=by rw[ByteArray.toList_eq]
    rw[e1,e2]at H;by_cases hz:cmpS xs[k] ys[k]=0
    ·have HA:=hA.succ (by have:=en.out;omega) (by have:=em.out;omega) hz;rw[hz]at H;generalize (⟨xs[k].toArray⟩:ByteArray)=x at *;generalize (⟨ys[k].toArray⟩:ByteArray)=y at *;clear hA h1 h2 hz e1 e2;go_wp2_with (go_at_call 205;refine(H _).mono ?_;rintro e w ⟨rfl,rfl⟩)
     go_round
     case rel=>exact⟨k+1,by omega,by go_num,HA⟩
     case measure=>simp[intOf];omega
    ·have HA:=Aa (hA.parts (by have:=en.out;omega) (by have:=em.out;omega) hz);have hz':(cmpS xs[k] ys[k] != 0)=true:=by rw[bne_iff_ne];exact hz
     generalize cmpS xs[k] ys[k]=r at *;generalize (⟨xs[k].toArray⟩:ByteArray)=x at *;generalize (⟨ys[k].toArray⟩:ByteArray)=y at *;clear hA h1 h2 hz e1 e2;go_wp2_with (go_at_call 205;refine(H _).mono ?_;rintro e w ⟨rfl,rfl⟩)
     go_ret;exact⟨Dp HA.out,rfl⟩
   ·have HA:=Aa (hA.more (by have:=en.out;omega) (by have:=em.out;omega));clear hA h1 h2;go_wp2;go_ret;exact⟨Dp HA.out,rfl⟩
  ·obtain rfl:k=n:=by omega
   by_cases hl:k<m
   ·have HA:=Aa (Ey.less (en.out ▸ hA) (by have:=en.out;have:=em.out;omega));clear hA h1 h2;go_wp2;go_ret;exact⟨Dp HA.out,rfl⟩
   ·have HA:=Aa (Ey.end (en.out ▸ hA) (by have:=en.out;have:=em.out;omega));clear hA h1 h2;go_wp2;go_ret;exact⟨Dp HA.out,rfl⟩
end Go.Proofs.YtpdahhnjhggocaaGreatDoor
