import Derived.Lib.ItoaMem
import Derived.Lib.AtoiAllCases
namespace Go.Proofs.YtpdahhnjhggocaaGreatDoor
set_option maxHeartbeats 16000000
set_option maxRecDepth 100000
section
open Go.Lib
def Fu(c:UInt8):Bool:=decide (48≤c.toNat) && decide (c.toNat≤57)
def Ag5(a:Nat)(c:UInt8):Nat:=a * 10+(c.toNat - 48)
def Dw(a:Nat)(l:List UInt8):Nat:=l.foldl Ag5 a
theorem Et(a:Nat):Dw a []=a:=by rw[Dw,List.foldl_nil]
theorem E6(a:Nat)(c:UInt8)(r:List UInt8):Dw a (c::r)=Dw (a * 10+(c.toNat - 48)) r:=by
 rw[Dw,List.foldl_cons,Dw,Ag5]
def J5(l:List UInt8):Nat:=Dw 0 l
def Eu(l:List UInt8):Bool:=(decide (1≤l.length) && decide (l.length≤7)) && l.all Fu && (decDigits (J5 l) == l && decide (J5 l≤1000000))
def He(l:List UInt8):Bool:=Eu l || (decide (1<l.length) && l.head? == some 45 && l.tail != [48] && Eu l.tail)
def decB(least:Int)(l:List UInt8):Bool:=match atoiAll l with
 | .ok v=>decide (least≤v) && decide (v≤1000000) && itoa v == l
 | _=>false
theorem J6(l m:List UInt8)(a:Nat):Dw a (l++m)=Dw (Dw a l) m:=by
 rw[Dw,List.foldl_append,Dw,Dw]
theorem Yo(l:List UInt8)(a:Nat):a≤Dw a l:=by
 induction l generalizing a with
 | nil=>rw[Et];exact Nat.le_refl _
 | cons c l ih=>rw[E6];exact Nat.le_trans (by omega) (ih _)
theorem Yp(d:Nat)(h:d<10):(UInt8.ofNat (48+d)).toNat=48+d:=by rw[UInt8.toNat_ofNat'];omega
theorem L1(u:Nat):(decDigits u).all Fu=true∧J5 (decDigits u)=u:=by
 induction u using Nat.strongRecOn with
 | _ u ih =>
  by_cases h:u<10
  ·rw[decDigits,dif_pos h];have:=Yp u h;refine⟨?_,?_⟩
   ·simp[Fu];omega
   ·rw[J5,E6,Et,this];omega
  ·rw[decDigits,dif_neg h];obtain⟨i1,i2⟩:=ih (u / 10) (by omega);have:=Yp (u % 10) (by omega);refine⟨?_,?_⟩
   ·rw[List.all_append,i1];simp[Fu];omega
   ·unfold J5 at i2 ⊢;rw[J6,i2];rw[E6,Et,this];omega
theorem J7(u:Nat)(h:u≤1000000):nDigits u≤7:=by
 by_cases h0:u<10
 ·rw[nDigits_small h0];omega
 ·rw[nDigits_big h0];by_cases h1:u / 10<10
  ·rw[nDigits_small h1];omega
  ·rw[nDigits_big h1];by_cases h2:u / 10 / 10<10
   ·rw[nDigits_small h2];omega
   ·rw[nDigits_big h2];by_cases h3:u / 10 / 10 / 10<10
    ·rw[nDigits_small h3];omega
    ·rw[nDigits_big h3];by_cases h4:u / 10 / 10 / 10 / 10<10
     ·rw[nDigits_small h4];omega
     ·rw[nDigits_big h4];by_cases h5:u / 10 / 10 / 10 / 10 / 10<10
      ·rw[nDigits_small h5];omega
      ·rw[nDigits_big h5,nDigits_small (by omega)];omega
theorem V6(u:Nat)(h:u≤1000000):Eu (decDigits u)=true:=by
 have hd:=L1 u;have hl:=decDigits_length u;have h1:=nDigits_pos u;have h2:=J7 u h;unfold Eu;rw[hd.1,hd.2,hl];simp[h1,h2,h]
theorem L2(l:List UInt8):Eu l=true↔∃ u,u≤1000000∧l=decDigits u:=by
 constructor
 ·intro h;unfold Eu at h;simp only[Bool.and_eq_true,beq_iff_eq,decide_eq_true_eq]at h;exact⟨J5 l,h.2.2,h.2.1.symm⟩
 ·rintro⟨u,h,rfl⟩;exact V6 u h
theorem Yq(l:List UInt8)(a:Nat)(hd:l.all Fu=true)(hb:Dw a l<10000000):parseUint10 a l=.ok (Dw a l):=by
 induction l generalizing a with
 | nil=>rw[Et];rfl
 | cons c l ih =>
  simp only[List.all_cons,Bool.and_eq_true,Fu,decide_eq_true_eq]at hd;rw[E6]at hb ⊢;have hle:=Yo l (a * 10+(c.toNat - 48));simp only[parseUint10];rw[if_pos (by omega),if_neg (by omega),if_neg (by omega)];exact ih _ hd.2 hb
theorem Ru(u:Nat)(h:u≤1000000):parseMag (decDigits u)=.ok u:=by
 have hd:=L1 u;have hne:decDigits u≠[]:=fun e=>by have:=decDigits_length u;rw[e]at this;have:=nDigits_pos u;simp at *;omega
 unfold parseMag;rw[if_neg hne,Yq _ 0 hd.1 (by have:=hd.2;unfold J5 at this;omega)];exact congrArg _ hd.2
theorem V7(u:Nat)(h:u≤1000000):atoiAll (decDigits u)=.ok (u:Int):=by
 have hp:=Ru u h;have hd:=(L1 u).1;cases hl:decDigits u with
 | nil=>have:=decDigits_length u;rw[hl]at this;have:=nDigits_pos u;simp at *;omega
 | cons c r =>
  rw[hl]at hd hp;simp only[List.all_cons,Bool.and_eq_true,Fu,decide_eq_true_eq]at hd;rw[atoiAll_plain c r (by omega) (by omega),hp];unfold signless;dsimp only;rw[if_neg (by omega)]
theorem Acz(u:Nat)(h:u≤1000000):atoiAll (45::decDigits u)=.ok (-(u:Int)):=by
 rw[atoiAll_minus,Ru u h];unfold signed;dsimp only;rw[if_neg (by omega)]
theorem Abe(l:List UInt8):decB 0 l=Eu l:=by
 rw[Bool.eq_iff_iff,L2];constructor
 ·intro h;unfold decB at h;split at h
  ·rename_i v hv;simp only[Bool.and_eq_true,beq_iff_eq,decide_eq_true_eq]at h;obtain⟨⟨h1,h2⟩,h3⟩:=h;obtain⟨u,rfl⟩:∃ u:Nat,v=(u:Int):=⟨v.toNat,by omega⟩;exact⟨u,by omega,by rw[← h3,itoa_nonneg]⟩
  ·cases h
 ·rintro⟨u,h,rfl⟩;unfold decB;rw[V7 u h];simp only[Bool.and_eq_true,beq_iff_eq,decide_eq_true_eq];exact⟨⟨by omega,by omega⟩,itoa_nonneg u⟩
theorem Ac0:decDigits 0=[48]:=by rw[decDigits,dif_pos (by omega)];rfl
theorem V8(l:List UInt8):decB (-1000000) l=He l:=by
 rw[Bool.eq_iff_iff];constructor
 ·intro h;unfold decB at h;split at h
  ·rename_i v hv;simp only[Bool.and_eq_true,beq_iff_eq,decide_eq_true_eq]at h;obtain⟨⟨h1,h2⟩,h3⟩:=h;unfold He;rw[Bool.or_eq_true];by_cases h0:0≤v
   ·left;rw[L2];obtain⟨u,rfl⟩:∃ u:Nat,v=(u:Int):=⟨v.toNat,by omega⟩;exact⟨u,by omega,by rw[← h3,itoa_nonneg]⟩
   ·right;have hv':v=-((v.natAbs:Nat):Int):=by omega
    rw[hv',itoa_neg _ (by omega)]at h3;rw[← h3];have hl:=decDigits_length v.natAbs;have hp:=nDigits_pos v.natAbs;have hne:decDigits v.natAbs≠[48]:=fun e=>by
     have:=(L1 v.natAbs).2;rw[e]at this;have h0:J5 [48]=0:=by decide
     omega
    simp only[List.length_cons,hl,List.head?_cons,List.tail_cons,V6 _ (show v.natAbs≤1000000 by omega),Bool.and_true,Bool.and_eq_true,decide_eq_true_eq,beq_self_eq_true];exact⟨by omega,by simpa using hne⟩
  ·cases h
 ·intro h;unfold He at h;rw[Bool.or_eq_true]at h;rcases h with h | h
  ·obtain⟨u,hu,rfl⟩:=(L2 l).1 h;unfold decB;rw[V7 u hu];simp only[Bool.and_eq_true,beq_iff_eq,decide_eq_true_eq];exact⟨⟨by omega,by omega⟩,itoa_nonneg u⟩
  ·simp only[Bool.and_eq_true,decide_eq_true_eq,beq_iff_eq,bne_iff_ne]at h;obtain⟨⟨⟨h1,h2⟩,h3⟩,h4⟩:=h;obtain⟨u,hu,ht⟩:=(L2 l.tail).1 h4;have hl:l=45::decDigits u:=by
    cases l with
    | nil=>simp at h2
    | cons c r=>simp only[List.head?_cons,Option.some.injEq]at h2;rw[h2,← ht];rfl
   have hu0:1≤u:=by
    rcases Nat.eq_zero_or_pos u with h0 | h0
    ·subst h0;rw[ht,Ac0]at h3;exact absurd rfl h3
    ·exact h0
   subst hl;unfold decB;rw[Acz u hu];simp only[Bool.and_eq_true,beq_iff_eq,decide_eq_true_eq];exact⟨⟨by omega,by omega⟩,itoa_neg u hu0⟩
end
end Go.Proofs.YtpdahhnjhggocaaGreatDoor
