import Derived.Test.YtpdahhnjhggocaaGreatDoorMz1
import Derived.Test.YtpdahhnjhggocaaGreatDoorMz13
namespace Go.Proofs.YtpdahhnjhggocaaGreatDoor
set_option maxHeartbeats 16000000
set_option maxRecDepth 100000
variable {R:List Plain}{i:Nat}{α:Type}{kind name:ByteArray}
structure PLine where
 key:ByteArray
 ws:List (List UInt8)
structure PBlock where
 kind:ByteArray
 name:ByteArray
 lines:List PLine
theorem toList_inj{a b:ByteArray}(h:a.toList=b.toList):a=b:=by
 rw[ByteArray.toList_eq,ByteArray.toList_eq]at h;exact ByteArray.ext (Array.toList_inj.1 h)
def placeI(R:List Plain)(key:ByteArray):Int:=match R.findIdx? (fun p=>p.1.toList == key.toList) with
 | some i=>(i:Int)
 | none=>-1
def Fe(R:List Plain)(key:ByteArray):Bool:=match Cp R key with
 | some p=>p.2.2.1
 | none=>false
theorem Ew{key:ByteArray}{p:Plain}(h:Cp R key=some p):∃ i:Nat,placeI R key=(i:Int)∧R[i]?=some p∧p.1=key:=by
 unfold Cp at h;obtain⟨hp,i,hi,rfl,hj⟩:=List.find?_eq_some_iff_getElem.1 h;refine⟨i,?_,List.getElem?_eq_getElem hi,toList_inj (by simpa using hp)⟩;unfold placeI;rw[List.findIdx?_eq_some_iff_getElem.2 ⟨hi,hp,fun j hj'=>by simpa using hj j hj'⟩]
theorem Px{a b:ByteArray}(ha:Cp R a≠none)(hb:Cp R b≠none)(h:placeI R a=placeI R b):a=b:=by
 obtain⟨p,hp⟩:=Option.ne_none_iff_exists'.1 ha;obtain⟨q,hq⟩:=Option.ne_none_iff_exists'.1 hb;obtain⟨i,hi,gi,rfl⟩:=Ew hp;obtain⟨j,hj,gj,rfl⟩:=Ew hq;have:i=j:=by omega
 subst this;rw[gi]at gj;rw[Option.some.inj gj]
def lineLt(R:List Plain)(a b:PLine):Bool:=decide (placeI R a.key<placeI R b.key) || (decide (placeI R a.key=placeI R b.key) && decide (a.ws<b.ws))
theorem Ei{a b:PLine}:lineLt R a b=true↔placeI R a.key<placeI R b.key∨placeI R a.key=placeI R b.key∧a.ws<b.ws:=by simp[lineLt]
theorem Fq(R:List Plain)(a:PLine):¬ lineLt R a a=true:=by
 rw[Ei];rintro(h | ⟨_,h⟩)
 ·omega
 ·exact Jj.irr _ h
theorem E8(R:List Plain)(a b c:PLine)(h:lineLt R a b=true)(k:lineLt R b c=true):lineLt R a c=true:=by
 rw[Ei]at *;rcases h with h | ⟨h,h'⟩ <;> rcases k with k | ⟨k,k'⟩
 ·left;omega
 ·left;omega
 ·left;omega
 ·right;exact⟨by omega,Jj.trans _ _ _ h' k'⟩
def keyN(ls:List PLine)(k:ByteArray):Nat:=ls.countP (fun a=>a.key.toList == k.toList)
def lineFault(R:List Plain)(es:List PLine)(a:PLine):Int :=
 if Cp R a.key=none then 5 else if Ds R a.key a.ws=false then 7
 else if es.any (fun o=>o.key.toList == a.key.toList && (!Fe R a.key || decide (o.ws=a.ws)))=true then 6
 else if 10≤keyN es a.key then 10 else 0
theorem Ct{es:List PLine}{a:PLine}:lineFault R es a=0↔Ds R a.key a.ws=true∧(∀ o∈es,o.key=a.key→Fe R a.key=true∧o.ws≠a.ws)∧keyN es a.key<10:=by
 unfold lineFault;constructor
 ·intro h;split at h
  ·omega
  split at h
  ·omega
  split at h
  ·omega
  split at h
  ·omega
  rename_i h1 h2 h3 h4;refine⟨by simpa using h2,fun o ho hk=>?_,by omega⟩;simp only[List.any_eq_true,not_exists,not_and,Bool.not_eq_true]at h3;have:=h3 o ho;rw[hk]at this;simpa using this
 ·rintro⟨h1,h2,h3⟩;have h0:¬ Cp R a.key=none:=fun h=>by rw[Dy _ h]at h1;cases h1
  rw[if_neg h0,if_neg (by simp[h1]),if_neg ?_,if_neg (by omega)];simp only[List.any_eq_true,not_exists,not_and,Bool.not_eq_true];intro o ho;by_cases hk:o.key=a.key
  ·have:=h2 o ho hk;simp[this.1,this.2]
  ·have:(o.key.toList == a.key.toList)=false:=by
    rw[beq_eq_false_iff_ne];exact fun e=>hk (toList_inj e)
   simp[this]
def Bi(R:List Plain)(ls:List PLine):Prop:=(∀ a∈ls,Ds R a.key a.ws=true)∧ls.Pairwise (fun a b=>lineLt R a b=true)∧∀ a∈ls,(Fe R a.key=true∨keyN ls a.key≤1)∧keyN ls a.key≤10
def Y0(R:List Plain)(ls:List PLine)(i:Nat):Prop:=∃ a,ls[i]?=some a∧Ds R a.key a.ws=true∧(i=0∨∃ b,ls[i - 1]?=some b∧lineLt R b a=true)∧(Fe R a.key=true∨keyN (ls.take (i+1)) a.key≤1)∧keyN (ls.take (i+1)) a.key≤10
theorem Ex(l m:List PLine)(k:ByteArray):keyN (l++m) k=keyN l k+keyN m k:=by simp[keyN]
theorem Ku(ls:List PLine)(i:Nat)(k:ByteArray):keyN (ls.take i) k≤keyN ls k:=by
 have:=Ex (ls.take i) (ls.drop i) k;rw[List.take_append_drop]at this;omega
theorem Ke(a:PLine)(k:ByteArray):keyN [a] k=if a.key=k then 1 else 0:=by
 unfold keyN;by_cases h:a.key=k
 ·simp[h]
 ·have:(a.key.toList == k.toList)=false:=by
   rw[beq_eq_false_iff_ne];exact fun e=>h (toList_inj e)
  simp[h,this]
theorem Jc{ls:List PLine}{a:PLine}(h:ls[i]?=some a)(k:ByteArray):keyN (ls.take (i+1)) k=keyN (ls.take i) k+if a.key=k then 1 else 0:=by
 rw[List.take_add_one,h,Ex];simp only[Option.toList,Ke]
theorem Re{ls:List α}{a b:α}(h:ls[i]?=some a):b∈ls.take (i+1)↔b∈ls.take i∨b=a:=by
 rw[List.take_add_one,h];simp
theorem L7{ls:List PLine}(h:∀ i,i<ls.length→Y0 R ls i):Bi R ls:=by
 refine⟨fun a ha=>?_,?_,?_⟩
 ·obtain⟨i,hi,rfl⟩:=List.mem_iff_getElem.1 ha;obtain⟨b,hb,hf,_⟩:=h i hi;rw[List.getElem?_eq_getElem hi]at hb;rw[Option.some.inj hb];exact hf
 ·refine Jk (E8 R) ls fun i a b ha hb=>?_
  obtain⟨hi,_⟩:=List.getElem?_eq_some_iff.1 hb;obtain⟨b',hb',_,hadj,_⟩:=h (i+1) hi;rw[hb]at hb';cases hb'
  rcases hadj with h0 | ⟨c,hc,hl⟩
  ·omega
  ·rw[Nat.add_sub_cancel,ha]at hc;cases hc;exact hl
 ·have key:∀ j,j≤ls.length→∀ a∈ls.take j,(Fe R a.key=true∨keyN (ls.take j) a.key≤1)∧keyN (ls.take j) a.key≤10:=by
   intro j
   induction j with
   | zero=>intro _ a ha;simp at ha
   | succ j ih =>
    intro hj a ha;obtain⟨b,hb,hs⟩:=h j (by omega);by_cases hk:b.key=a.key
    ·rw[← hk];exact hs.2.2
    ·have:=Jc hb a.key;rw[if_neg hk,Nat.add_zero]at this;rw[this];rcases(Re hb).1 ha with h1 | rfl
     ·exact ih (by omega) a h1
     ·exact absurd rfl hk
  intro a ha;have:=key ls.length (Nat.le_refl _) a (by rw[List.take_length];exact ha)
  rwa [List.take_length]at this
theorem L8{ls:List PLine}(h:Bi R ls)(i:Nat)(hi:i<ls.length):Y0 R ls i:=by
 refine⟨ls[i],List.getElem?_eq_getElem hi,h.1 _ (List.getElem_mem _),?_,?_,?_⟩
 ·by_cases h0:i=0
  ·exact .inl h0
  ·exact .inr ⟨ls[i - 1],List.getElem?_eq_getElem _,E7 h.2.1 (i - 1) i (by omega) _ _ (List.getElem?_eq_getElem _) (List.getElem?_eq_getElem hi)⟩
 ·have:=Ku ls (i+1) ls[i].key;rcases(h.2.2 ls[i] (List.getElem_mem _)).1 with h1 | h1
  ·exact .inl h1
  ·exact .inr (by omega)
 ·have:=Ku ls (i+1) ls[i].key;have:=(h.2.2 ls[i] (List.getElem_mem _)).2;omega
theorem S4{ls:List PLine}(h:∀ i a,ls[i]?=some a→lineFault R (ls.take i) a=0)(hs:∀ i a b,ls[i]?=some a→ls[i+1]?=some b→lineLt R b a=false):Bi R ls:=by
 refine L7 fun i hi=>?_
 have hz:=Ct.1 (h i ls[i] (List.getElem?_eq_getElem hi));refine⟨ls[i],List.getElem?_eq_getElem hi,hz.1,?_,?_,?_⟩
 ·by_cases h0:i=0
  ·exact .inl h0
  right;have hz':=Ct.1 (h (i - 1) ls[i - 1] (List.getElem?_eq_getElem (by omega)));refine⟨ls[i - 1],List.getElem?_eq_getElem _,?_⟩;have hn:=hs (i - 1) ls[i - 1] ls[i] (List.getElem?_eq_getElem _) (by rw[show i - 1+1=i by omega];exact List.getElem?_eq_getElem hi);have hm:ls[i - 1]∈ls.take i:=by
   rw[List.mem_iff_getElem];exact⟨i - 1,by simp;omega,by simp⟩
  have h2:=hz.2.1 _ hm;generalize ls[i - 1]=b at *;generalize ls[i]=a at *;rw[← Bool.not_eq_true,Ei]at hn;rw[Ei];have hka:Cp R a.key≠none:=fun e=>by have:=hz.1;rw[Dy _ e]at this;cases this
  have hkb:Cp R b.key≠none:=fun e=>by have:=hz'.1;rw[Dy _ e]at this;cases this
  by_cases hp:placeI R b.key=placeI R a.key
  ·have hk:=Px hkb hka hp;have hw:=(h2 hk).2;refine .inr ⟨hp,?_⟩;by_cases hlt:b.ws<a.ws
   ·exact hlt
   ·exact absurd (Jj.tri _ _ hlt (fun q=>hn (.inr ⟨hp.symm,q⟩))) hw
  ·left;have:¬ placeI R a.key<placeI R b.key:=fun q=>hn (.inl q)
   omega
 ·rw[Jc (List.getElem?_eq_getElem hi),if_pos rfl];by_cases hm:Fe R ls[i].key=true
  ·exact .inl hm
  ·right;have:keyN (ls.take i) ls[i].key=0:=by
    unfold keyN;rw[List.countP_eq_zero];intro o ho hk;exact hm (hz.2.1 o ho (toList_inj (by simpa using hk))).1
   omega
 ·rw[Jc (List.getElem?_eq_getElem hi),if_pos rfl];have:=hz.2.2;omega
theorem Jl{ls:List PLine}(h:Bi R ls):(∀ i a,ls[i]?=some a→lineFault R (ls.take i) a=0)∧∀ i a b,ls[i]?=some a→ls[i+1]?=some b→lineLt R b a=false:=by
 constructor
 ·intro i a ha;obtain⟨hi,rfl⟩:=List.getElem?_eq_some_iff.1 ha;have hc:=h.2.2 ls[i] (List.getElem_mem _);have h1:=Ku ls (i+1) ls[i].key;rw[Jc (List.getElem?_eq_getElem hi),if_pos rfl]at h1;refine Ct.2 ⟨h.1 _ (List.getElem_mem _),fun o ho hk=>⟨?_,?_⟩,by omega⟩
  ·rcases hc.1 with h2 | h2
   ·exact h2
   ·have:keyN (ls.take i) ls[i].key=0:=by omega
    unfold keyN at this;rw[List.countP_eq_zero]at this;exact absurd (by simp[hk]) (this o ho)
  ·intro e;obtain⟨j,hj,rfl⟩:=List.mem_iff_getElem.1 ho;simp only[List.length_take,List.getElem_take]at hj e hk;have:=E7 h.2.1 j i (by omega) _ _ (List.getElem?_eq_getElem (by omega)) (List.getElem?_eq_getElem hi);rw[Ei,hk,e]at this;rcases this with q | ⟨_,q⟩
   ·omega
   ·exact Jj.irr _ q
 ·intro i a b ha hb;have:=E7 h.2.1 i (i+1) (by omega) a b ha hb;rw[← Bool.not_eq_true];exact fun k=>Fq R _ (E8 R _ _ _ this k)
def blockLt(a b:PBlock):Bool:=decide (a.kind.toList<b.kind.toList) || (decide (a.kind.toList=b.kind.toList) && decide (a.name.toList<b.name.toList))
theorem Dz{a b:PBlock}:blockLt a b=true↔a.kind.toList<b.kind.toList∨a.kind.toList=b.kind.toList∧a.name.toList<b.name.toList:=by simp[blockLt]
theorem Kf(a:PBlock):¬ blockLt a a=true:=by
 rw[Dz];rintro(h | ⟨_,h⟩)
 ·exact Jj.irr _ h
 ·exact Jj.irr _ h
theorem Fi(a b c:PBlock)(h:blockLt a b=true)(k:blockLt b c=true):blockLt a c=true:=by
 rw[Dz]at *;rcases h with h | ⟨h,h'⟩ <;> rcases k with k | ⟨k,k'⟩
 ·exact .inl (Jj.trans _ _ _ h k)
 ·exact .inl (k ▸ h)
 ·exact .inl (h ▸ k)
 ·exact .inr ⟨h.trans k,Jj.trans _ _ _ h' k'⟩
def headFault(es:List PBlock)(kind name:ByteArray):Int :=
 if (rulesOf kind).length=0 then 3 else if nameB name.data.toList=false then 4
 else if es.any (fun o=>o.kind.toList == kind.toList && o.name.toList == name.toList)=true then 9
 else if 60≤es.length then 10 else 0
theorem Dl{es:List PBlock}:headFault es kind name=0↔(rulesOf kind).length≠0∧nameB name.data.toList=true∧(∀ o∈es,¬ (o.kind=kind∧o.name=name))∧es.length<60:=by
 unfold headFault;constructor
 ·intro h;split at h
  ·omega
  split at h
  ·omega
  split at h
  ·omega
  split at h
  ·omega
  rename_i h1 h2 h3 h4;refine⟨h1,by simpa using h2,fun o ho hk=>?_,by omega⟩;apply h3;rw[List.any_eq_true];exact⟨o,ho,by simp[hk.1,hk.2]⟩
 ·rintro⟨h1,h2,h3,h4⟩;rw[if_neg h1,if_neg (by simp[h2]),if_neg ?_,if_neg (by omega)];rw[List.any_eq_true];rintro⟨o,ho,hk⟩;simp only[Bool.and_eq_true,beq_iff_eq]at hk;exact h3 o ho ⟨toList_inj hk.1,toList_inj hk.2⟩
def Ax(bs:List PBlock):Prop:=bs.length≤60∧(∀ b∈bs,(rulesOf b.kind).length≠0∧nameB b.name.data.toList=true∧Bi (rulesOf b.kind) b.lines)∧bs.Pairwise (fun a b=>blockLt a b=true)
def M7(bs:List PBlock)(i:Nat):Prop:=∃ b,bs[i]?=some b∧(rulesOf b.kind).length≠0∧nameB b.name.data.toList=true∧Bi (rulesOf b.kind) b.lines∧(i=0∨∃ a,bs[i - 1]?=some a∧blockLt a b=true)
theorem L9{bs:List PBlock}(hl:bs.length≤60)(h:∀ i,i<bs.length→M7 bs i):Ax bs:=by
 refine⟨hl,fun b hb=>?_,?_⟩
 ·obtain⟨i,hi,rfl⟩:=List.mem_iff_getElem.1 hb;obtain⟨c,hc,h1,h2,h3,_⟩:=h i hi;rw[List.getElem?_eq_getElem hi]at hc;rw[Option.some.inj hc];exact⟨h1,h2,h3⟩
 ·refine Jk Fi bs fun i a b ha hb=>?_
  obtain⟨hi,_⟩:=List.getElem?_eq_some_iff.1 hb;obtain⟨b',hb',_,_,_,hadj⟩:=h (i+1) hi;rw[hb]at hb';cases hb'
  rcases hadj with h0 | ⟨c,hc,hl⟩
  ·omega
  ·rw[Nat.add_sub_cancel,ha]at hc;cases hc;exact hl
theorem S8{bs:List PBlock}(h:Ax bs)(i:Nat)(hi:i<bs.length):M7 bs i:=by
 have hb:=h.2.1 bs[i] (List.getElem_mem _);refine⟨bs[i],List.getElem?_eq_getElem hi,hb.1,hb.2.1,hb.2.2,?_⟩;by_cases h0:i=0
 ·exact .inl h0
 ·exact .inr ⟨bs[i - 1],List.getElem?_eq_getElem _,E7 h.2.2 (i - 1) i (by omega) _ _ (List.getElem?_eq_getElem _) (List.getElem?_eq_getElem hi)⟩
theorem S9{bs:List PBlock}(h:∀ i b,bs[i]?=some b→headFault (bs.take i) b.kind b.name=0∧Bi (rulesOf b.kind) b.lines)(hs:∀ i a b,bs[i]?=some a→bs[i+1]?=some b→blockLt b a=false):Ax bs:=by
 have hl:bs.length≤60:=by
  by_cases h0:bs.length=0
  ·omega
  ·have:=(Dl.1 (h (bs.length - 1) bs[bs.length - 1] (List.getElem?_eq_getElem (by omega))).1).2.2.2;simp at this;omega
 refine L9 hl fun i hi=>?_
 have hb:=h i bs[i] (List.getElem?_eq_getElem hi);have hz:=Dl.1 hb.1;refine⟨bs[i],List.getElem?_eq_getElem hi,hz.1,hz.2.1,hb.2,?_⟩;by_cases h0:i=0
 ·exact .inl h0
 right;refine⟨bs[i - 1],List.getElem?_eq_getElem _,?_⟩;have hn:=hs (i - 1) bs[i - 1] bs[i] (List.getElem?_eq_getElem _) (by rw[show i - 1+1=i by omega];exact List.getElem?_eq_getElem hi);have hm:bs[i - 1]∈bs.take i:=by
  rw[List.mem_iff_getElem];exact⟨i - 1,by simp;omega,by simp⟩
 have h2:=hz.2.2.1 _ hm;generalize bs[i - 1]=a at *;generalize bs[i]=b at *;rw[← Bool.not_eq_true,Dz]at hn;rw[Dz];by_cases h3:a.kind.toList<b.kind.toList
 ·exact .inl h3
 ·have e1:=Jj.tri _ _ h3 (fun q=>hn (.inl q));refine .inr ⟨e1,?_⟩;by_cases h4:a.name.toList<b.name.toList
  ·exact h4
  ·have e2:=Jj.tri _ _ h4 (fun q=>hn (.inr ⟨e1.symm,q⟩));exact absurd ⟨toList_inj e1,toList_inj e2⟩ h2
theorem Jm{bs:List PBlock}(h:Ax bs):(∀ i b,bs[i]?=some b→headFault (bs.take i) b.kind b.name=0∧Bi (rulesOf b.kind) b.lines)∧∀ i a b,bs[i]?=some a→bs[i+1]?=some b→blockLt b a=false:=by
 constructor
 ·intro i b hb;obtain⟨hi,rfl⟩:=List.getElem?_eq_some_iff.1 hb;have hk:=h.2.1 bs[i] (List.getElem_mem _);refine⟨Dl.2 ⟨hk.1,hk.2.1,fun o ho e=>?_,by have:=h.1;simp;omega⟩,hk.2.2⟩;obtain⟨j,hj,rfl⟩:=List.mem_iff_getElem.1 ho;simp only[List.length_take,List.getElem_take]at hj e;have:=E7 h.2.2 j i (by omega) _ _ (List.getElem?_eq_getElem (by omega)) (List.getElem?_eq_getElem hi);rw[Dz,e.1,e.2]at this;rcases this with q | ⟨_,q⟩ <;> exact Jj.irr _ q
 ·intro i a b ha hb;have:=E7 h.2.2 i (i+1) (by omega) a b ha hb;rw[← Bool.not_eq_true];exact fun k=>Kf _ (Fi _ _ _ this k)
open Classical in
noncomputable def linesB(R:List Plain)(ls:List PLine):Bool:=decide (Bi R ls)
open Classical in
noncomputable def Ca(bs:List PBlock):Bool:=decide (Ax bs)
theorem Cg{ls:List PLine}:linesB R ls=true↔Bi R ls:=by simp[linesB]
theorem Bh{bs:List PBlock}:Ca bs=true↔Ax bs:=by simp[Ca]
variable {ms:List PLine}{es:List PBlock}{b:PBlock}
def Dt(R:List Plain)(ls:List PLine):Prop:=∀ i a,ls[i]?=some a→lineFault R (ls.take i) a=0
theorem Dt.snoc{ls:List PLine}{a:PLine}(h:Dt R ls)(ha:lineFault R ls a=0):Dt R (ls++[a]):=by
 intro i b hb;by_cases hi:i<ls.length
 ·rw[List.getElem?_append_left hi]at hb;rw[List.take_append_of_le_length (by omega)];exact h i b hb
 ·rw[List.getElem?_append_right (by omega)]at hb;have h0:i - ls.length=0:=by
   by_cases h0:i - ls.length=0
   ·exact h0
   ·rw[List.getElem?_eq_none (by simp;omega)]at hb;cases hb
  rw[h0]at hb;cases hb
  rw[show i=ls.length by omega,List.take_append_of_le_length (Nat.le_refl _),List.take_length];exact ha
theorem Dt.front{ls:List PLine}{a:PLine}(h:Dt R (ls++[a])):Dt R ls∧lineFault R ls a=0:=by
 constructor
 ·intro i b hb;have hi:=(List.getElem?_eq_some_iff.1 hb).1;have:=h i b (by rw[List.getElem?_append_left hi];exact hb)
  rwa [List.take_append_of_le_length (by omega)]at this
 ·have:=h ls.length a (by rw[List.getElem?_append_right (Nat.le_refl _)];simp)
  rwa [List.take_append_of_le_length (Nat.le_refl _),List.take_length]at this
theorem R7{l m:List PLine}(h:l.Perm m)(k:ByteArray):keyN l k=keyN m k:=h.countP_eq _
def Da(R:List Plain)(ls:List PLine):List PLine:=ls.foldl (fun acc a=>Dd (lineLt R) a acc) []
theorem Kg(R:List Plain)(ls:List PLine)(a:PLine):Da R (ls++[a])=Dd (lineLt R) a (Da R ls):=by simp[Da]
theorem R8{α:Type}(lt:α→α→Bool):∀(ls acc:List α),(ls.foldl (fun acc a=>Dd lt a acc) acc).Perm (acc++ls)
 | [],acc=>by simp
 | a::ls,acc=>by
  rw[List.foldl_cons];refine(R8 lt ls _).trans ?_;refine((Fp lt a acc).append_right ls).trans ?_;exact(List.perm_middle (a:=a) (l₁:=acc) (l₂:=ls)).symm
theorem D0(R:List Plain)(ls:List PLine):(Da R ls).Perm ls:=by
 have:=R8 (lineLt R) ls [];simpa [Da] using this
theorem H4{α:Type}{lt:α→α→Bool}(ht:∀ a b c,lt a b=true→lt b c=true→lt a c=true)(x:α):∀(l:List α),l.Pairwise (fun a b=>lt a b=true)→(∀ y∈l,lt y x=false→lt x y=true)→(Dd lt x l).Pairwise (fun a b=>lt a b=true)
 | [],_,_=>List.pairwise_singleton _ _
 | y::l,h,hx=>by
  have h1:=List.pairwise_cons.1 h;unfold Dd;split
  ·rename_i hy;refine List.pairwise_cons.2 ⟨fun z hz=>?_,H4 ht x l h1.2 fun z hz=>hx z (List.mem_cons_of_mem _ hz)⟩;rcases List.mem_cons.1 ((Fp lt x l).mem_iff.1 hz) with rfl | hz
   ·exact hy
   ·exact h1.1 z hz
  ·rename_i hy;have hxy:=hx y (List.mem_cons_self ..) (by simpa using hy);refine List.pairwise_cons.2 ⟨fun z hz=>?_,h⟩;rcases List.mem_cons.1 hz with rfl | hz
   ·exact hxy
   ·exact ht _ _ _ hxy (h1.1 z hz)
theorem Y1{es:List PLine}{a b:PLine}(hb:b∈es)(hfb:Ds R b.key b.ws=true)(h:lineFault R es a=0)(hn:lineLt R b a=false):lineLt R a b=true:=by
 have hz:=Ct.1 h;rw[← Bool.not_eq_true,Ei]at hn;rw[Ei];have hka:Cp R a.key≠none:=fun e=>by have:=hz.1;rw[Dy _ e]at this;cases this
 have hkb:Cp R b.key≠none:=fun e=>by rw[Dy _ e]at hfb;cases hfb
 by_cases hp:placeI R a.key=placeI R b.key
 ·have hk:=Px hka hkb hp;have hw:=(hz.2.1 b hb hk.symm).2;refine .inr ⟨hp,?_⟩;by_cases hlt:a.ws<b.ws
  ·exact hlt
  ·exact absurd (Jj.tri _ _ (fun q=>hn (.inr ⟨hp.symm,q⟩)) hlt) hw
 ·left;have:¬ placeI R b.key<placeI R a.key:=fun q=>hn (.inl q)
  omega
theorem Dt.fits{ls:List PLine}(h:Dt R ls):∀ a∈ls,Ds R a.key a.ws=true:=by
 intro a ha;obtain⟨i,hi,rfl⟩:=List.mem_iff_getElem.1 ha;exact(Ct.1 (h i _ (List.getElem?_eq_getElem hi))).1
theorem Kh{P:List α→Prop}(h0:P [])(h1:∀ l a,P l→P (l++[a]))(l:List α):P l:=by
 rw[← List.reverse_reverse l]
 induction l.reverse with
 | nil=>exact h0
 | cons a m ih=>rw[List.reverse_cons];exact h1 _ _ ih
theorem K9(ls:List PLine):Dt R ls→(Da R ls).Pairwise (fun a b=>lineLt R a b=true):=by
 refine Kh (P:=fun ls=>Dt R ls→(Da R ls).Pairwise (fun a b=>lineLt R a b=true)) (fun _=>.nil) (fun l a ih h=>?_) ls;have hf:=h.front;rw[Kg];refine H4 (E8 R) a _ (ih hf.1) fun y hy hn=>?_
 have hm:=(D0 R l).mem_iff.1 hy;exact Y1 hm (hf.1.fits y hm) hf.2 hn
theorem Dt.counts(ls:List PLine):Dt R ls→∀ a∈ls,(Fe R a.key=true∨keyN ls a.key≤1)∧keyN ls a.key≤10:=by
 refine Kh (P:=fun ls=>Dt R ls→∀ a∈ls,(Fe R a.key=true∨keyN ls a.key≤1)∧keyN ls a.key≤10) (fun _ a ha=>by simp at ha) (fun l b ih h a ha=>?_) ls;have hf:=h.front;rw[Ex,Ke];by_cases hk:b.key=a.key
 ·rw[if_pos hk,← hk];have hz:=Ct.1 hf.2;refine⟨?_,by omega⟩;by_cases hm:Fe R b.key=true
  ·exact .inl hm
  ·right;have:keyN l b.key=0:=by
    unfold keyN;rw[List.countP_eq_zero];intro o ho hk';exact hm (hz.2.1 o ho (toList_inj (by simpa using hk'))).1
   omega
 ·rw[if_neg hk,Nat.add_zero];rcases List.mem_append.1 ha with h1 | h1
  ·exact ih hf.1 a h1
  ·exact absurd (List.mem_singleton.1 h1).symm (fun e=>hk (by rw[e]))
theorem M8{ls:List PLine}(h:Dt R ls):Bi R (Da R ls):=by
 have hp:=D0 R ls;refine⟨fun a ha=>h.fits a (hp.mem_iff.1 ha),K9 ls h,fun a ha=>?_⟩;rw[R7 hp];exact h.counts ls a (hp.mem_iff.1 ha)
theorem Rf{ls:List PLine}(h:Dt R ls)(hp:ms.Perm ls)(hs:∀ i j:Nat,i<j→∀ a b,ms[i]?=some a→ms[j]?=some b→lineLt R b a=false):ms=Da R ls:=by
 have hstrict:ms.Pairwise (fun a b=>lineLt R a b=true):=by
  have hN:=M8 h;have hmem:∀ a∈ms,a∈Da R ls:=fun a ha=>(D0 R ls).mem_iff.2 (hp.mem_iff.1 ha)
  have hnd:ms.Nodup:=by
   have hq:(Da R ls).Nodup:=hN.2.1.imp (fun {a b} hab e=>by subst e;exact Fq R _ hab);exact(hp.trans (D0 R ls).symm).nodup_iff.2 hq
  rw[List.pairwise_iff_getElem];intro i j hi hj hij;have hn:=hs i j hij _ _ (List.getElem?_eq_getElem hi) (List.getElem?_eq_getElem hj);obtain⟨x,hx,ex⟩:=List.mem_iff_getElem.1 (hmem _ (List.getElem_mem hi));obtain⟨y,hy,ey⟩:=List.mem_iff_getElem.1 (hmem _ (List.getElem_mem hj));have hne:x≠y:=by
   intro e;subst e;have:ms[i]=ms[j]:=ex.symm.trans ey;exact(List.pairwise_iff_getElem.1 hnd) i j hi hj hij this
  rw[← ex,← ey]at hn ⊢;rcases Nat.lt_or_gt_of_ne hne with h1 | h1
  ·exact(List.pairwise_iff_getElem.1 hN.2.1) x y hx hy h1
  ·rw[(List.pairwise_iff_getElem.1 hN.2.1) y x hy hx h1]at hn;cases hn
 exact Gz (Fq R) (E8 R) hstrict (K9 ls h) (hp.trans (D0 R ls).symm)
def Ah8(b:PBlock):PBlock:=⟨b.kind,b.name,Da (rulesOf b.kind) b.lines⟩
def Ahh(bs:List PBlock):List PBlock:=(bs.map Ah8).foldl (fun acc a=>Dd blockLt a acc) []
theorem Wl{a:PBlock}(hb:b∈es)(h:headFault es a.kind a.name=0)(hn:blockLt b a=false):blockLt a b=true:=by
 have hz:=(Dl.1 h).2.2.1 b hb;rw[← Bool.not_eq_true,Dz]at hn;rw[Dz];by_cases h3:a.kind.toList<b.kind.toList
 ·exact .inl h3
 ·have e1:=Jj.tri _ _ (fun q=>hn (.inl q)) h3;refine .inr ⟨e1.symm,?_⟩;by_cases h4:a.name.toList<b.name.toList
  ·exact h4
  ·have e2:=Jj.tri _ _ (fun q=>hn (.inr ⟨e1,q⟩)) h4;exact absurd ⟨toList_inj e1,toList_inj e2⟩ hz
def M9:List UInt8→List UInt8→List (List UInt8)
 | acc,[]=>if acc=[] then [] else [acc]
 | acc,c::l=>if c=10 then acc::M9 [] l else M9 (acc++[c]) l
def Abm(l:List UInt8):List (List UInt8):=M9 [] l
inductive Ajh where
 | bad (line:Nat) (code:Int)
 | good (bs:List PBlock)
variable {l:List UInt8}
def Adm(a:PLine):List UInt8:=a.key.data.toList++a.ws.flatMap (fun w=>32::Aat w)
def Wm(t:List UInt8):Prop:=20000<t.length∨400<(Abm t).length
instance (t:List UInt8):Decidable (Wm t):=by unfold Wm;infer_instance
def Ahi(R:List Plain):Prop:=∀ p∈R,Rv p.1.data.toList=true∧p.1.data.toList.length≤200∧p.1.data.toList≠[101,110,100]∧p.2.1.length≤3∧∀ t∈p.2.1,1≤t∧t≤6
theorem Ahj(kind:ByteArray):Ahi (rulesOf kind):=by
 have:=C5 kind;have hk:∀ p∈rulesOf kind,Rv p.1.data.toList=true∧p.1.data.toList.length≤200∧p.1.data.toList≠[101,110,100]:=by
  unfold rulesOf;split
  ·unfold Gm;decide
  ·split
   ·unfold Fo;decide
   ·split
    ·unfold Eh;decide
    ·simp
 intro p hp;exact⟨(hk p hp).1,(hk p hp).2.1,(hk p hp).2.2,(this.2 p hp).1,(this.2 p hp).2⟩
theorem R9(h:nameB l=true):Rv l=true∧l.length≤200:=by
 unfold nameB at h;rw[Bool.and_eq_true,Bool.and_eq_true,decide_eq_true_eq,decide_eq_true_eq]at h;refine⟨?_,by omega⟩;unfold Rv;rw[Bool.and_eq_true];refine⟨?_,?_⟩
 ·cases l with
  | nil=>simp at h
  | cons c l=>rfl
 ·rw[List.all_eq_true];intro c hc;have:=List.all_eq_true.1 h.1 c hc;unfold nameByte at this;simp only[Bool.or_eq_true,Bool.and_eq_true,decide_eq_true_eq]at this;exact Ac2 (by omega)
theorem Na(h:Eu l=true):l.length≤7:=by
 unfold Eu at h;simp only[Bool.and_eq_true,decide_eq_true_eq]at h;exact h.1.1.2
theorem Abn{t:Int}{w:List UInt8}(h1:1≤t)(h6:t≤6)(h:Jy t w=true):w.length≤200:=by
 rcases six h1 h6 with rfl | rfl | rfl | rfl | rfl | rfl <;> unfold Jy at h <;> simp at h
 ·have:=Na h;omega
 ·unfold He at h;simp only[Bool.or_eq_true,Bool.and_eq_true]at h;rcases h with h | h
  ·have:=Na h;omega
  ·have:=Na h.2;simp at this;omega
 ·have:=(R9 h).2;exact this
 ·exact h
 ·unfold Abg at h;simp only[Bool.or_eq_true,beq_iff_eq]at h;rcases h with rfl | rfl <;> decide
 ·unfold Kc at h;simp only[Bool.or_eq_true,beq_iff_eq]at h;rcases h with (rfl | rfl) | rfl <;> decide
theorem Sa{a:PLine}(h:Ds (rulesOf kind) a.key a.ws=true):Rv a.key.data.toList=true∧a.key.data.toList.length≤200∧a.key.data.toList≠[101,110,100]∧a.ws.length≤3∧∀ w∈a.ws,w.length≤200:=by
 cases hp:Cp (rulesOf kind) a.key with
 | none=>rw[Dy _ hp]at h;cases h
 | some p =>
  obtain⟨i,_,hi,hk⟩:=Ew hp;have hm:p∈rulesOf kind:=List.mem_of_getElem? hi;obtain⟨k1,k2,k3,k4,k5⟩:=Ahj kind p hm;rw[Hf _ hp]at h;unfold C0 at h;rw[Bool.and_eq_true,decide_eq_true_eq]at h;rw[hk]at k1 k2 k3;refine⟨k1,k2,k3,by omega,fun w hw=>?_⟩;obtain⟨j,hj,rfl⟩:=List.mem_iff_getElem.1 hw;have hz:Jy (p.2.1[j]'(by omega)) a.ws[j]=true:=by
   have:=List.all_eq_true.1 h.2 (Jy (p.2.1[j]'(by omega)) a.ws[j]) (List.mem_iff_getElem.2 ⟨j,by simp;omega,by simp⟩);simpa using this
  have ht:=k5 _ (List.getElem_mem (by omega:j<p.2.1.length));exact Abn ht.1 ht.2 hz
def hasK(ls:List PLine)(k:ByteArray):Bool:=ls.any (fun a=>a.key.toList == k.toList)
def Jb(ls:List PLine)(k:ByteArray):List PLine:=ls.filter (fun a=>a.key.toList == k.toList)
def Nb(R:List Plain):Prop:=R.Pairwise (fun p q=>p.1≠q.1)
theorem Ki(kind:ByteArray):Nb (rulesOf kind):=by
 unfold rulesOf;split
 ·unfold Nb;decide
 ·split
  ·unfold Nb;decide
  ·split
   ·unfold Nb;decide
   ·exact .nil
theorem Adn{ls:List PLine}{k:ByteArray}:hasK ls k=true↔∃ a∈ls,a.key=k:=by
 unfold hasK;rw[List.any_eq_true];constructor
 ·rintro⟨a,ha,h⟩;exact⟨a,ha,toList_inj (by simpa using h)⟩
 ·rintro⟨a,ha,rfl⟩;exact⟨a,ha,by simp⟩
theorem Y2{ls:List PLine}{k:ByteArray}:hasK ls k=false↔∀ a∈ls,a.key≠k:=by
 rw[← Bool.not_eq_true,Adn];constructor
 ·exact fun h a ha e=>h ⟨a,ha,e⟩
 ·rintro h ⟨a,ha,e⟩;exact h a ha e
theorem Sb{ls:List PLine}{k:ByteArray}(h:∀ a∈ls,a.key≠k):keyN ls k=0:=by
 unfold keyN;rw[List.countP_eq_zero];intro a ha e;exact h a ha (toList_inj (by simpa using e))
theorem Bi.good{ls:List PLine}(h:Bi R ls):Dt R ls:=(Jl h).1
theorem Af2(ls:List PLine)(k:ByteArray):(Jb ls k).isEmpty=!hasK ls k:=by
 unfold Jb hasK
 induction ls with
 | nil=>rfl
 | cons a l ih =>
  rw[List.filter_cons,List.any_cons];cases (a.key.toList == k.toList)
  ·simpa using ih
  ·rfl
def Bc(kind name:ByteArray)(b:PBlock):Bool:=(b.kind.toList == kind.toList) && (b.name.toList == name.toList)
def Db(bs:List PBlock)(kind name:ByteArray)(k:Nat):Prop:=∀ b∈bs.take k,Bc kind name b=false
theorem Db.zero(bs:List PBlock)(kind name:ByteArray):Db bs kind name 0:=by simp[Db]
theorem Db.succ{D T:List PBlock}(h:Db (D++b::T) kind name D.length)(hb:Bc kind name b=false):Db (D++b::T) kind name (D.length+1):=by
 unfold Db at *;rw[List.take_append_of_le_length (Nat.le_refl _),List.take_length]at h;rw[List.take_append,List.take_of_length_le (by omega),show D.length+1 - D.length=1 from by omega];intro s hs;simp only[List.take_succ_cons,List.take_zero,List.mem_append,List.mem_singleton]at hs;rcases hs with hs | rfl
 ·exact h s hs
 ·exact hb
theorem Db.none{bs:List PBlock}(h:Db bs kind name bs.length):bs.find? (Bc kind name)=none:=by
 unfold Db at h;rw[List.take_length]at h;rw[List.find?_eq_none];intro b hb;rw[h b hb];decide
theorem Db.hit{D T:List PBlock}(h:Db (D++b::T) kind name D.length)(hb:Bc kind name b=true):(D++b::T).find? (Bc kind name)=some b:=by
 unfold Db at h;rw[List.take_append_of_le_length (Nat.le_refl _),List.take_length]at h;rw[List.find?_append,List.find?_eq_none.2 (fun x hx=>by rw[h x hx];decide),Option.none_or,List.find?_cons_of_pos hb]
structure PChange where
 what:Int
 kind:ByteArray
 name:ByteArray
 key:ByteArray
 lines:List PLine
open Classical in
noncomputable def Fj(kind name:ByteArray)(x y:List PLine)(key:ByteArray):List PChange:=if Jb x key=Jb y key then [] else [⟨if (Jb y key).isEmpty=true then 4 else 3,kind,name,key,Jb y key⟩]
noncomputable def Ma(x y:PBlock):List PChange:=(rulesOf x.kind).flatMap fun p=>Fj x.kind x.name x.lines y.lines p.1
def Hm(b:PBlock):PChange:=⟨1,b.kind,b.name,⟨#[]⟩,[]⟩
def Sc(b:PBlock):PChange:=⟨2,b.kind,b.name,⟨#[]⟩,b.lines⟩
def goneS(A B:List PBlock):List PChange:=(A.filter fun a=>(B.find? (Bc a.kind a.name)).isNone).map Hm
noncomputable def Ed(A:List PBlock)(y:PBlock):List PChange:=match A.find? (Bc y.kind y.name) with
 | none=>[Sc y]
 | some x=>Ma x y
noncomputable def diffS(A B:List PBlock):List PChange:=if Ca A=true∧Ca B=true then goneS A B++B.flatMap (Ed A) else []
theorem Nc{α β:Type}(f:α→List β)(k:Nat):∀ l:List α,(∀ x∈l,(f x).length≤k)→(l.flatMap f).length≤k * l.length
 | [],_=>by simp
 | a::l,h=>by
  have h1:=h a (by simp);have h2:=Nc f k l (fun x hx=>h x (by simp[hx]));rw[List.flatMap_cons,List.length_append,List.length_cons,Nat.mul_add];omega
theorem Abo(kind name:ByteArray)(x y:List PLine)(key:ByteArray):(Fj kind name x y key).length≤1:=by
 unfold Fj;split <;> simp
theorem Abp(x y:PBlock):(Ma x y).length≤(rulesOf x.kind).length:=by
 have:=Nc (fun p:Plain=>Fj x.kind x.name x.lines y.lines p.1) 1 (rulesOf x.kind) (fun p _=>Abo _ _ _ _ _);unfold Ma;omega
theorem Abq(A:List PBlock)(y:PBlock):(Ed A y).length≤12:=by
 unfold Ed;split
 ·simp
 ·exact Nat.le_trans (Abp _ _) (C5 _).1
theorem Abr(A B:List PBlock):(goneS A B).length≤A.length:=by
 unfold goneS;rw[List.length_map];exact List.length_filter_le _ _
theorem Abs(A B:List PBlock):(diffS A B).length≤780:=by
 unfold diffS;split
 ·rename_i h;have h1:=(Bh.1 h.1).1;have h2:=(Bh.1 h.2).1;have h3:=Abr A B;have h4:=Nc (Ed A) 12 B (fun y _=>Abq A y);rw[List.length_append];omega
 ·simp
theorem Y3{l m:List PLine}(hl:l.Pairwise (fun a b=>lineLt R a b=true))(hm:m.Pairwise (fun a b=>lineLt R a b=true))(h:∀ a,a∈l↔a∈m):l=m:=by
 have nd:∀ {l:List PLine},l.Pairwise (fun a b=>lineLt R a b=true)→l.Nodup:=fun h=>h.imp (fun {a b} hab e=>by subst e;exact Fq R _ hab)
 exact Gz (Fq R) (E8 R) hl hm ((List.perm_ext_iff_of_nodup (nd hl) (nd hm)).2 h)
theorem Bi.sub{l m:List PLine}(h:Bi R m)(hs:l.Sublist m):Bi R l:=by
 refine⟨fun a ha=>h.1 a (hs.subset ha),h.2.1.sublist hs,fun a ha=>?_⟩;have h3:=h.2.2 a (hs.subset ha);have hc:keyN l a.key≤keyN m a.key:=hs.countP_le;exact⟨h3.1.imp id (fun h=>Nat.le_trans hc h),Nat.le_trans hc h3.2⟩
theorem Ado(hn:Nb R){p q:Plain}(hp:p∈R)(hq:q∈R)(e:p.1=q.1):p=q:=by
 induction R with
 | nil=>cases hp
 | cons r R ih =>
  have h:=List.pairwise_cons.1 hn;rcases List.mem_cons.1 hp with e1 | h1
  ·rcases List.mem_cons.1 hq with e2 | h2
   ·rw[e1,e2]
   ·exact absurd (e1 ▸ e) (h.1 q h2)
  ·rcases List.mem_cons.1 hq with e2 | h2
   ·exact absurd (e2 ▸ e.symm) (h.1 p h1)
   ·exact ih h.2 h1 h2
theorem Af3(hn:Nb R){p:Plain}(hp:p∈R):Cp R p.1=some p:=by
 unfold Cp;have:(R.find? (fun q=>q.1.toList == p.1.toList)).isSome=true:=by
  rw[List.find?_isSome];exact⟨p,hp,by simp⟩
 obtain⟨q,hq⟩:=Option.isSome_iff_exists.1 this;have h1:=List.mem_of_find?_eq_some hq;have h2:=List.find?_some hq;have h3:q.1=p.1:=toList_inj (by simpa using h2);rw[hq,Ado hn h1 hp h3]
theorem picked{key:ByteArray}{p:Plain}(h:Cp R key=some p):p∈R∧p.1=key:=by
 unfold Cp at h;have h2:=List.find?_some h;exact⟨List.mem_of_find?_eq_some h,toList_inj (by simpa using h2)⟩
theorem Bi.rule{ls:List PLine}(h:Bi R ls){a:PLine}(ha:a∈ls):∃ p∈R,p.1=a.key:=by
 have:=h.1 a ha;unfold Ds at this;cases hp:Cp R a.key with
 | none=>rw[hp]at this;cases this
 | some p=>exact⟨p,(picked hp).1,(picked hp).2⟩
theorem Lm{ls:List PLine}{k:ByteArray}{a:PLine}:a∈Jb ls k↔a∈ls∧a.key=k:=by
 unfold Jb;rw[List.mem_filter];refine and_congr Iff.rfl ⟨fun h=>toList_inj (by simpa using h),fun h=>by simp[h]⟩
theorem Py:∀(R:List Plain) (ls:List PLine),(∀ a∈ls,∃ p∈R,p.1=a.key)→(∀ k,keyN ls k≤10)→ls.length≤10 * R.length
 | [],ls,h,_=>by
  cases ls with
  | nil=>simp
  | cons a ls=>obtain⟨p,hp,_⟩:=h a (by simp);cases hp
 | p::R,ls,h,hk=>by
  have h1:=Py R (ls.filter (fun a=>!(a.key.toList == p.1.toList))) (fun a ha=>by
   have hf:=List.mem_filter.1 ha;obtain⟨q,hq,e⟩:=h a hf.1;rcases List.mem_cons.1 hq with rfl | hq
   ·have:=hf.2;rw[e]at this;simp at this
   ·exact⟨q,hq,e⟩) (fun k=>by
    unfold keyN;have:=List.Sublist.countP_le (p:=fun a:PLine=>a.key.toList == k.toList) (List.filter_sublist (p:=fun a:PLine=>!(a.key.toList == p.1.toList)) (l:=ls));have h2:=hk k;unfold keyN at h2;omega)
  have h2:=hk p.1;unfold keyN at h2;have h3:=List.length_eq_countP_add_countP (fun a:PLine=>a.key.toList == p.1.toList) (l:=ls);rw[← List.countP_eq_length_filter]at h1;have h4:ls.countP (fun a=>!(a.key.toList == p.1.toList))=ls.countP (fun a=>decide ¬ ((a.key.toList == p.1.toList)=true)):=by
   congr 1;funext a;cases (a.key.toList == p.1.toList) <;> rfl
  rw[h4]at h1;rw[List.length_cons];omega
theorem Bi.few{ls:List PLine}(h:Bi R ls):ls.length≤10 * R.length:=by
 refine Py R ls (fun a ha=>?_) (fun k=>?_)
 ·have hf:=h.1 a ha;have hp:Cp R a.key≠none:=fun e=>by rw[Dy _ e]at hf;cases hf
  obtain⟨p,hp⟩:=Option.ne_none_iff_exists'.1 hp;obtain⟨i,_,hi,e⟩:=Ew hp;exact⟨p,List.mem_of_getElem? hi,e⟩
 ·by_cases hk:∃ a∈ls,a.key=k
  ·obtain⟨a,ha,rfl⟩:=hk;exact(h.2.2 a ha).2
  ·rw[Sb (fun a ha e=>hk ⟨a,ha,e⟩)];omega
def Kj(u o:List PLine):List PLine:=u.filter (fun a=>!hasK o a.key)
def Wn(R:List Plain)(u o:List PLine):List PLine:=Da R (o++Kj u o)
theorem Abt{ls:List PLine}(h:Dt R ls):∀ us:List PLine,Dt R us→(∀ a∈us,∀ o∈ls,o.key≠a.key)→Dt R (ls++us):=by
 refine Kh (fun _ _=>by rw[List.append_nil];exact h) ?_;intro us a ih hu hd;obtain⟨h1,h2⟩:=hu.front;rw[← List.append_assoc];refine(ih h1 (fun b hb=>hd b (by simp[hb]))).snoc ?_;obtain⟨q1,q2,q3⟩:=Ct.1 h2;refine Ct.2 ⟨q1,fun o ho=>?_,?_⟩
 ·rcases List.mem_append.1 ho with ho | ho
  ·exact fun e=>absurd e (hd a (by simp) o ho)
  ·exact q2 o ho
 ·rw[Ex,Sb (hd a (by simp)),Nat.zero_add];exact q3
theorem Wo{l m:List PLine}(hl:Bi R l)(hm:Bi R m)(h:∀ a,a∈l↔a∈m):l=m:=Y3 hl.2.1 hm.2.1 h
def Aav(bs:List PBlock):Prop:=bs.Pairwise (fun a b=>¬ (a.kind=b.kind∧a.name=b.name))
theorem Ax.heads{bs:List PBlock}(h:Ax bs):Aav bs:=h.2.2.imp fun {a b} hab e=>by
 rw[Dz,e.1,e.2]at hab;rcases hab with q | ⟨_,q⟩ <;> exact Jj.irr _ q
def Gb(bs:List PBlock)(kind name:ByteArray):Option PBlock:=bs.find? (Bc kind name)
theorem Cu:Bc kind name b=true↔b.kind=kind∧b.name=name:=by
 unfold Bc;simp only[Bool.and_eq_true,beq_iff_eq];exact⟨fun h=>⟨toList_inj h.1,toList_inj h.2⟩,fun h=>by rw[h.1,h.2];exact⟨rfl,rfl⟩⟩
theorem En{bs:List PBlock}(h:Gb bs kind name=some b):b∈bs∧b.kind=kind∧b.name=name:=⟨List.mem_of_find?_eq_some h,Cu.1 (List.find?_some h)⟩
theorem Sd{bs:List PBlock}:Gb bs kind name=none↔∀ b∈bs,¬ (b.kind=kind∧b.name=name):=by
 unfold Gb;rw[List.find?_eq_none];exact⟨fun h b hb e=>h b hb (Cu.2 e),fun h b hb e=>h b hb (Cu.1 e)⟩
theorem Ou{bs:List PBlock}(h:Aav bs)(hb:b∈bs):Gb bs b.kind b.name=some b:=by
 induction bs with
 | nil=>cases hb
 | cons a l ih =>
  have hp:=List.pairwise_cons.1 h;unfold Gb;rw[List.find?_cons];cases hh:Bc b.kind b.name a
  ·rcases List.mem_cons.1 hb with rfl | hb
   ·rw[Cu.2 ⟨rfl,rfl⟩]at hh;cases hh
   ·exact ih hp.2 hb
  ·rcases List.mem_cons.1 hb with rfl | hb
   ·rfl
   ·exact absurd (Cu.1 hh) (hp.1 b hb)
theorem Se{l m:List PBlock}(hl:l.Pairwise (fun a b=>blockLt a b=true))(hm:m.Pairwise (fun a b=>blockLt a b=true))(h:∀ a,a∈l↔a∈m):l=m:=by
 have nd:∀ {l:List PBlock},l.Pairwise (fun a b=>blockLt a b=true)→l.Nodup:=fun h=>h.imp (fun {a b} hab e=>by subst e;exact Kf _ hab)
 exact Gz Kf Fi hl hm ((List.perm_ext_iff_of_nodup (nd hl) (nd hm)).2 h)
theorem Wp:Ax []:=⟨by simp,by simp,List.Pairwise.nil⟩
variable {A A':List PBlock}
def D6(key:ByteArray)(a:PLine):Bool:=!(a.key.toList == key.toList)
theorem Jn{key:ByteArray}{a:PLine}:D6 key a=true↔a.key≠key:=by
 unfold D6;rw[Bool.not_eq_true',beq_eq_false_iff_ne];exact⟨fun h e=>h (by rw[e]),fun h e=>h (toList_inj e)⟩
def Ej(R:List Plain)(ls:List PLine)(key:ByteArray)(xs:List PLine):List PLine:=xs.foldl (fun acc a=>Dd (lineLt R) a acc) (ls.filter (D6 key))
def N0(A:List PBlock)(kind name:ByteArray):List PBlock:=A.filter (fun b=>!Bc kind name b)
def La(A:List PBlock)(kind name:ByteArray)(ls:List PLine):List PBlock:=A.map (fun b=>if Bc kind name b=true then ⟨b.kind,b.name,ls⟩ else b)
open Classical in
noncomputable def oneS(A:List PBlock)(c:PChange):Option (List PBlock):=match Gb A c.kind c.name with
 | none=>if c.what=2∧c.key=⟨#[]⟩∧Ax (Dd blockLt ⟨c.kind,c.name,c.lines⟩ A) then some (Dd blockLt ⟨c.kind,c.name,c.lines⟩ A) else none
 | some b=>if c.what=1∧c.key=⟨#[]⟩∧c.lines=[] then some (N0 A c.kind c.name)
  else if c.what=3∧c.lines≠[]∧(∀ a∈c.lines,a.key=c.key)∧Bi (rulesOf b.kind) (Ej (rulesOf b.kind) b.lines c.key c.lines) then some (La A c.kind c.name (Ej (rulesOf b.kind) b.lines c.key c.lines))
  else if c.what=4∧c.lines=[]∧hasK b.lines c.key=true then some (La A c.kind c.name (b.lines.filter (D6 c.key)))
  else none
noncomputable def Ea:Nat→List PBlock→List PChange→List PBlock × Int
 | _,A,[]=>(A,0)
 | i,A,c::cs=>match oneS A c with
  | none=>([],2+(i:Int))
  | some A'=>Ea (i+1) A' cs
noncomputable def applyS(A:List PBlock)(cs:List PChange):List PBlock × Int:=if Ca A=true then Ea 0 A cs else ([],1)
theorem Kk{D T:List PBlock}(h:Aav (D++b::T))(hb:Bc kind name b=true):(∀ d∈D,Bc kind name d=false)∧∀ t∈T,Bc kind name t=false:=by
 obtain⟨rfl,rfl⟩:=Cu.1 hb;unfold Aav at h;rw[List.pairwise_append,List.pairwise_cons]at h;obtain⟨_,⟨h2,_⟩,h3⟩:=h;refine⟨fun d hd=>?_,fun t ht=>?_⟩
 ·cases e:Bc b.kind b.name d
  ·rfl
  ·exact absurd (Cu.1 e) (h3 d hd b (by simp))
 ·cases e:Bc b.kind b.name t
  ·rfl
  ·have:=Cu.1 e;exact absurd ⟨this.1.symm,this.2.symm⟩ (h2 t ht)
theorem Iu{D T:List PBlock}(h:Ax (D++b::T))(hb:Bc kind name b=true):N0 (D++b::T) kind name=D++T:=by
 have h1:=Kk h.heads hb;unfold N0;rw[List.filter_append,List.filter_cons_of_neg (by simp[hb])];rw[List.filter_eq_self.2 (fun d hd=>by simp[h1.1 d hd]),List.filter_eq_self.2 (fun d hd=>by simp[h1.2 d hd])]
theorem D1{D T:List PBlock}(h:Ax (D++b::T))(hb:Bc kind name b=true)(ls:List PLine):La (D++b::T) kind name ls=D++⟨b.kind,b.name,ls⟩::T:=by
 have h1:=Kk h.heads hb;unfold La;rw[List.map_append,List.map_cons,if_pos hb];congr 1
 ·exact(List.map_congr_left (fun d hd=>by rw[h1.1 d hd];rfl)).trans (List.map_id _)
 ·congr 1;exact(List.map_congr_left (fun d hd=>by rw[h1.2 d hd];rfl)).trans (List.map_id _)
theorem H7{D T:List PBlock}(h:Ax (D++b::T))(hb:Bc kind name b=true):Gb (D++b::T) kind name=some b:=by
 have h1:=Cu.1 hb;rw[← h1.1,← h1.2];exact Ou h.heads (by simp)
theorem Jo{D T:List PBlock}(h:Ax (D++b::T)):Ax (D++T):=by
 have hs:(D++T).Sublist (D++b::T):=List.Sublist.append (List.Sublist.refl _) (List.sublist_cons_self _ _);exact⟨Nat.le_trans hs.length_le h.1,fun x hx=>h.2.1 x (hs.subset hx),h.2.2.sublist hs⟩
theorem Hs{a a' b':PBlock}(h1:a'.kind=a.kind)(h2:a'.name=a.name)(h3:b'.kind=b.kind)(h4:b'.name=b.name):blockLt a' b'=blockLt a b:=by
 unfold blockLt;rw[h1,h2,h3,h4]
theorem Gn{D T:List PBlock}{b':PBlock}(h:Ax (D++b::T))(hk:b'.kind=b.kind)(hn:b'.name=b.name):Ax (D++b'::T)↔Bi (rulesOf b'.kind) b'.lines:=by
 refine⟨fun k=>(k.2.1 b' (by simp)).2.2,fun hl=>⟨by have:=h.1;simpa using this,fun x hx=>?_,?_⟩⟩
 ·rcases List.mem_append.1 hx with hx | hx
  ·exact h.2.1 x (List.mem_append_left _ hx)
  ·rcases List.mem_cons.1 hx with rfl | hx
   ·have:=h.2.1 b (by simp);rw[hk]at hl ⊢;rw[hn];exact⟨this.1,this.2.1,hl⟩
   ·exact h.2.1 x (by simp[hx])
 ·have h2:=h.2.2;rw[List.pairwise_append,List.pairwise_cons]at h2 ⊢;refine⟨h2.1,⟨fun t ht=>?_,h2.2.1.2⟩,fun d hd t ht=>?_⟩
  ·rw[Hs hk hn rfl rfl];exact h2.2.1.1 t ht
  ·rcases List.mem_cons.1 ht with rfl | ht
   ·rw[Hs rfl rfl hk hn];exact h2.2.2 d hd b (by simp)
   ·exact h2.2.2 d hd t (by simp[ht])
theorem Nd(h:Ax A):(Gb A b.kind b.name=none∧Ax (Dd blockLt b A))↔headFault A b.kind b.name=0∧Bi (rulesOf b.kind) b.lines:=by
 have hp:=Fp blockLt b A;refine⟨fun⟨h1,h2⟩=>?_,fun⟨h1,h2⟩=>?_⟩
 ·have hb:=h2.2.1 b (hp.mem_iff.2 (by simp));have hl:=h2.1;rw[hp.length_eq,List.length_cons]at hl;exact⟨Dl.2 ⟨hb.1,hb.2.1,fun o ho=>Sd.1 h1 o ho,by omega⟩,hb.2.2⟩
 ·have h3:=Dl.1 h1;refine⟨Sd.2 h3.2.2.1,?_,fun x hx=>?_,?_⟩
  ·rw[hp.length_eq,List.length_cons];omega
  ·rcases List.mem_cons.1 (hp.mem_iff.1 hx) with rfl | hx
   ·exact⟨h3.1,h3.2.1,h2⟩
   ·exact h.2.1 x hx
  ·exact H4 (fun a b c=>Fi a b c) b A h.2.2 (fun y hy hn=>Wl hy h1 hn)
theorem Ta{l:List PLine}(h:Bi R ms)(hp:ms.Perm l):Dt R l:=by
 have hnd:l.Nodup:=hp.nodup_iff.1 (h.2.1.imp (fun {_ b} hab e=>by rw[e]at hab;exact Fq R b hab));intro i a hi;have hm:a∈l:=List.mem_of_getElem? hi;have hm':=hp.mem_iff.2 hm;have hk:=h.2.2 a hm';have hkl:keyN l a.key=keyN ms a.key:=(R7 hp a.key).symm;have hsucc:=Jc hi a.key;rw[if_pos rfl]at hsucc;have hle:=Ku l (i+1) a.key;refine Ct.2 ⟨h.1 a hm',fun o ho hok=>⟨?_,?_⟩,by omega⟩
 ·rcases hk.1 with h1 | h1
  ·exact h1
  ·exfalso;have h0:0<keyN (l.take i) a.key:=by
    unfold keyN;rw[List.countP_pos_iff];exact⟨o,ho,by rw[hok];simp⟩
   omega
 ·intro hw;have hoa:o=a:=by
   obtain⟨ok,ow⟩:=o;obtain⟨ak,aw⟩:=a;simp only at hok hw;rw[hok,hw]
  subst hoa;obtain⟨j,hj⟩:=List.mem_iff_getElem?.1 ho;have hji:j<i:=by
   have:=(List.getElem?_eq_some_iff.1 hj).1;rw[List.length_take]at this;omega
  rw[List.getElem?_take,if_pos hji]at hj;have hjl:=(List.getElem?_eq_some_iff.1 hj).1;exact absurd ((List.getElem?_inj hjl hnd).1 (hj.trans hi.symm)) (by omega)
theorem Af4{ls:List PLine}(h:Bi R ls):Da R ls=ls :=
 Wo (M8 h.good) h (fun _=>(D0 R ls).mem_iff)
theorem Nf{ls:List PLine}(h:Bi R ls)(key:ByteArray)(xs:List PLine):Ej R ls key xs=Da R (ls.filter (D6 key)++xs):=by
 have h1:=Af4 (h.sub (List.filter_sublist (p:=D6 key)));unfold Ej;rw[show Da R (ls.filter (D6 key)++xs)=xs.foldl (fun acc a=>Dd (lineLt R) a acc) (Da R (ls.filter (D6 key))) by unfold Da;rw[List.foldl_append],h1]
theorem Ng{ls:List PLine}(h:Bi R ls){key:ByteArray}{xs:List PLine}:Bi R (Ej R ls key xs)↔Dt R (ls.filter (D6 key)++xs):=by
 rw[Nf h];exact⟨fun k=>Ta k (D0 R _),M8⟩
theorem Wq{ls xs:List PLine}{key:ByteArray}(h:Bi R ls)(hp:ms.Perm (ls.filter (D6 key)++xs))(hs:∀ i j:Nat,i<j→∀ a b,ms[i]?=some a→ms[j]?=some b→lineLt R b a=false):(Bi R ms↔Bi R (Ej R ls key xs))∧(Bi R ms→ms=Ej R ls key xs):=by
 have h1:Dt R (ls.filter (D6 key)++xs)→ms=Ej R ls key xs:=fun hg=>by rw[Nf h];exact Rf hg hp hs
 refine⟨⟨fun k=>(Ng h).2 (Ta k hp),fun k=>?_⟩,fun k=>h1 (Ta k hp)⟩;rw[h1 ((Ng h).1 k)];exact k
theorem Tb{c:PChange}(h:Ax A)(he:oneS A c=some A'):Ax A':=by
 unfold oneS at he;split at he
 ·split at he
  ·rename_i hc;cases he;exact hc.2.2
  ·cases he
 ·rename_i b hb;obtain⟨hm,hk,hn⟩:=En hb;obtain⟨D,T,rfl⟩:=List.append_of_mem hm;have hh:Bc c.kind c.name b=true:=Cu.2 ⟨hk,hn⟩;split at he
  ·cases he;rw[Iu h hh];exact Jo h
  split at he
  ·rename_i hc;cases he;rw[D1 h hh];exact(Gn (b':=⟨b.kind,b.name,Ej (rulesOf b.kind) b.lines c.key c.lines⟩) h rfl rfl).2 hc.2.2.2
  split at he
  ·cases he;rw[D1 h hh];exact(Gn (b':=⟨b.kind,b.name,b.lines.filter (D6 c.key)⟩) h rfl rfl).2 ((h.2.1 b (by simp)).2.2.sub List.filter_sublist)
  ·cases he
theorem Kv{c:PChange}(hw:c.what=1)(h:Gb A c.kind c.name=none∨c.key≠⟨#[]⟩∨c.lines≠[]):oneS A c=none:=by
 unfold oneS;split
 ·rw[if_neg (fun k=>by have:=k.1;omega)]
 ·rename_i b hb;rw[if_neg (fun k=>?_),if_neg (fun k=>by have:=k.1;omega),if_neg (fun k=>by have:=k.1;omega)];rcases h with h | h | h
  ·rw[hb]at h;cases h
  ·exact h k.2.1
  ·exact h k.2.2
theorem Nh{c:PChange}(hw:c.what=1)(hb:Gb A c.kind c.name=some b)(hk:c.key=⟨#[]⟩)(hl:c.lines=[]):oneS A c=some (N0 A c.kind c.name):=by
 unfold oneS;rw[hb];exact if_pos ⟨hw,hk,hl⟩
theorem Kl{c:PChange}(hw:c.what=2)(h:Gb A c.kind c.name≠none∨c.key≠⟨#[]⟩∨¬ Ax (Dd blockLt ⟨c.kind,c.name,c.lines⟩ A)):oneS A c=none:=by
 unfold oneS;split
 ·rename_i hb;rw[if_neg (fun k=>?_)];rcases h with h | h | h
  ·exact h hb
  ·exact h k.2.1
  ·exact h k.2.2
 ·rw[if_neg (fun k=>by have:=k.1;omega),if_neg (fun k=>by have:=k.1;omega),if_neg (fun k=>by have:=k.1;omega)]
theorem Pz{c:PChange}(hw:c.what=2)(hb:Gb A c.kind c.name=none)(hk:c.key=⟨#[]⟩)(hl:Ax (Dd blockLt ⟨c.kind,c.name,c.lines⟩ A)):oneS A c=some (Dd blockLt ⟨c.kind,c.name,c.lines⟩ A):=by
 unfold oneS;rw[hb];exact if_pos ⟨hw,hk,hl⟩
theorem Jd{c:PChange}(hw:c.what=3)(h:Gb A c.kind c.name=none∨c.lines=[]∨(∃ a∈c.lines,a.key≠c.key)∨∃ b,Gb A c.kind c.name=some b∧¬ Bi (rulesOf b.kind) (Ej (rulesOf b.kind) b.lines c.key c.lines)):oneS A c=none:=by
 unfold oneS;split
 ·rw[if_neg (fun k=>by have:=k.1;omega)]
 ·rename_i b hb;rw[if_neg (fun k=>by have:=k.1;omega),if_neg (fun k=>?_),if_neg (fun k=>by have:=k.1;omega)];rcases h with h | h | ⟨a,ha,h⟩ | ⟨b',hb',h⟩
  ·rw[hb]at h;cases h
  ·exact k.2.1 h
  ·exact h (k.2.2.1 a ha)
  ·rw[hb]at hb';cases hb';exact h k.2.2.2
theorem P0{c:PChange}(hw:c.what=3)(hb:Gb A c.kind c.name=some b)(h1:c.lines≠[])(h2:∀ a∈c.lines,a.key=c.key)(h3:Bi (rulesOf b.kind) (Ej (rulesOf b.kind) b.lines c.key c.lines)):oneS A c=some (La A c.kind c.name (Ej (rulesOf b.kind) b.lines c.key c.lines)):=by
 unfold oneS;rw[hb];dsimp only;rw[if_neg (fun k=>by have:=k.1;omega)];exact if_pos ⟨hw,h1,h2,h3⟩
theorem H8{c:PChange}(hw:c.what=4)(h:Gb A c.kind c.name=none∨c.lines≠[]∨∃ b,Gb A c.kind c.name=some b∧hasK b.lines c.key=false):oneS A c=none:=by
 unfold oneS;split
 ·rw[if_neg (fun k=>by have:=k.1;omega)]
 ·rename_i b hb;rw[if_neg (fun k=>by have:=k.1;omega),if_neg (fun k=>by have:=k.1;omega),if_neg (fun k=>?_)];rcases h with h | h | ⟨b',hb',h⟩
  ·rw[hb]at h;cases h
  ·exact h k.2.1
  ·rw[hb]at hb';cases hb';rw[h]at k;cases k.2.2
theorem Ln{c:PChange}(hw:c.what=4)(hb:Gb A c.kind c.name=some b)(h1:c.lines=[])(h2:hasK b.lines c.key=true):oneS A c=some (La A c.kind c.name (b.lines.filter (D6 c.key))):=by
 unfold oneS;rw[hb];dsimp only;rw[if_neg (fun k=>by have:=k.1;omega),if_neg (fun k=>by have:=k.1;omega)];exact if_pos ⟨hw,h1,h2⟩
theorem Y4{c:PChange}(h1:c.what≠1)(h2:c.what≠2)(h3:c.what≠3)(h4:c.what≠4):oneS A c=none:=by
 unfold oneS;split
 ·rw[if_neg (fun k=>h2 k.1)]
 ·rw[if_neg (fun k=>h1 k.1),if_neg (fun k=>h3 k.1),if_neg (fun k=>h4 k.1)]
inductive NW where
 | ended (m:Nat)
 | bad (m:Nat)
 | words (m:Nat) (w:List UInt8) (ws:List (List UInt8)) (rest:List (List UInt8))
noncomputable def Hr:List PBlock→List PChange→Option (List PBlock)
 | A,[]=>some A
 | A,c::cs=>(oneS A c).bind fun A'=>Hr A' cs
theorem X5:∀ {cs:List PChange} {A A':List PBlock} (i:Nat),Hr A cs=some A'→Ea i A cs=(A',0)
 | [],A,A',i,h=>by cases h;rfl
 | c::cs,A,A',i,h=>by
  unfold Hr at h;unfold Ea;cases e:oneS A c
  ·rw[e]at h;cases h
  ·rw[e]at h;exact X5 (i+1) h
theorem Iq:∀ {cs ds:List PChange} {A A' A'':List PBlock},Hr A cs=some A'→Hr A' ds=some A''→Hr A (cs++ds)=some A''
 | [],ds,A,A',A'',h,k=>by cases h;exact k
 | c::cs,ds,A,A',A'',h,k=>by
  rw[List.cons_append];unfold Hr at h ⊢;cases e:oneS A c
  ·rw[e]at h;cases h
  ·rw[e]at h;exact Iq h k
theorem K3{c:PChange}(h:oneS A c=some A'):Hr A [c]=some A':=by
 unfold Hr;rw[h];rfl
theorem L0(g:PBlock→Bool):∀(T D:List PBlock),Ax (D++T)→Hr (D++T) ((T.filter g).map Hm)=some (D++T.filter (fun t=>!g t))
 | [],D,h=>by simp[Hr]
 | t::T,D,h=>by
  cases hg:g t
  ·have:=L0 g T (D++[t]) (by rw[List.append_assoc];exact h);rw[List.append_assoc,List.append_assoc]at this;rw[List.filter_cons_of_neg (by simp[hg]),List.filter_cons_of_pos (by simp[hg])];exact this
  ·rw[List.filter_cons_of_pos hg,List.filter_cons_of_neg (by simp[hg]),List.map_cons];have hh:Bc t.kind t.name t=true:=Cu.2 ⟨rfl,rfl⟩;refine Iq (cs:=[Hm t]) (K3 (Nh (c:=Hm t) rfl (H7 h hh) rfl rfl)) ?_;rw[show N0 (D++t::T) (Hm t).kind (Hm t).name=D++T from Iu h hh];exact L0 g T D (Jo h)
theorem Ae4{key:ByteArray}{x y l:List PLine}{D T:List PBlock}(h:Ax (D++⟨kind,name,l⟩::T))(hy:Bi (rulesOf kind) y)(hx:∀ a:PLine,a.key=key→(a∈l↔a∈x)):
  ∃ l',Hr (D++⟨kind,name,l⟩::T) (Fj kind name x y key)=some (D++⟨kind,name,l'⟩::T)∧Bi (rulesOf kind) l'∧∀ a:PLine,(a.key=key→(a∈l'↔a∈y))∧(a.key≠key→(a∈l'↔a∈l)):=by
 have hl:Bi (rulesOf kind) l:=(h.2.1 ⟨kind,name,l⟩ (by simp)).2.2;have hh:Bc kind name (⟨kind,name,l⟩:PBlock)=true:=Cu.2 ⟨rfl,rfl⟩;unfold Fj;by_cases e:Jb x key=Jb y key
 ·rw[if_pos e];refine⟨l,rfl,hl,fun a=>⟨fun ha=>?_,fun _=>Iff.rfl⟩⟩;rw[hx a ha];have h1:=Lm (ls:=x) (k:=key) (a:=a);have h2:=Lm (ls:=y) (k:=key) (a:=a);rw[e,h2]at h1;exact⟨fun k=>(h1.2 ⟨k,ha⟩).1,fun k=>(h1.1 ⟨k,ha⟩).1⟩
 ·rw[if_neg e];by_cases e2:(Jb y key).isEmpty=true
  ·rw[if_pos e2,List.isEmpty_iff.1 e2];have hk:hasK l key=true:=by
    cases hk:hasK l key
    ·exfalso;apply e;rw[List.isEmpty_iff.1 e2];refine List.eq_nil_iff_forall_not_mem.2 (fun a ha=>?_);have:=Lm.1 ha;exact Y2.1 hk a ((hx a this.2).2 this.1) this.2
    ·rfl
   refine⟨l.filter (D6 key),K3 ((Ln (c:=⟨4,kind,name,key,[]⟩) rfl (H7 h hh) rfl hk).trans (congrArg some (D1 h hh _))),hl.sub List.filter_sublist,fun a=>⟨fun ha=>⟨fun k=>absurd ha (Jn.1 (List.mem_filter.1 k).2),fun k=>?_⟩,fun ha=>⟨fun k=>(List.mem_filter.1 k).1,fun k=>List.mem_filter.2 ⟨k,Jn.2 ha⟩⟩⟩⟩;have:=Lm.2 ⟨k,ha⟩;rw[List.isEmpty_iff.1 e2]at this;cases this
  ·rw[if_neg e2];have hg:Bi (rulesOf kind) (Ej (rulesOf kind) l key (Jb y key)):=(Ng hl).2 (Abt (hl.sub List.filter_sublist).good _ (hy.sub List.filter_sublist).good (fun a ha o ho k=>Jn.1 (List.mem_filter.1 ho).2 (k.trans (Lm.1 ha).2)));have hm:∀ a,a∈Ej (rulesOf kind) l key (Jb y key)↔(a∈l∧a.key≠key)∨(a∈y∧a.key=key):=fun a=>by
    rw[Nf hl,(D0 _ _).mem_iff,List.mem_append,List.mem_filter,Jn,Lm]
   refine⟨_,K3 ((P0 (c:=⟨3,kind,name,key,Jb y key⟩) rfl (H7 h hh) (fun k=>e2 (by rw[show Jb y key=[] from k];rfl)) (fun a ha=>(Lm.1 ha).2) hg).trans (congrArg some (D1 h hh _))),hg,fun a=>⟨fun ha=>?_,fun ha=>?_⟩⟩
   ·rw[hm a];simp[ha]
   ·rw[hm a];simp[ha]
theorem Qx{kind name:ByteArray}{x y:List PLine}{D T:List PBlock}(hy:Bi (rulesOf kind) y):∀(Q P:List Plain) (l:List PLine),P++Q=rulesOf kind→Ax (D++⟨kind,name,l⟩::T)→(∀ a:PLine,((∃ p∈P,p.1=a.key)→(a∈l↔a∈y))∧((∀ p∈P,p.1≠a.key)→(a∈l↔a∈x))) →
  Hr (D++⟨kind,name,l⟩::T) (Q.flatMap fun p=>Fj kind name x y p.1)=some (D++⟨kind,name,y⟩::T)
 | [],P,l,hP,h,hm=>by
  rw[List.append_nil]at hP;have hl:Bi (rulesOf kind) l:=(h.2.1 ⟨kind,name,l⟩ (by simp)).2.2;have:l=y:=Wo hl hy fun a=>⟨fun ha=>((hm a).1 (by rw[hP];exact hl.rule ha)).1 ha,fun ha=>((hm a).1 (by rw[hP];exact hy.rule ha)).2 ha⟩
  rw[this];rfl
 | p::Q,P,l,hP,h,hm=>by
  have hn:∀ q∈P,q.1≠p.1:=fun q hq=>by
   have:=Ki kind;rw[← hP]at this;exact(List.pairwise_append.1 this).2.2 q hq p (by simp)
  obtain⟨l',k1,k2,k3⟩:=Ae4 (x:=x) (key:=p.1) h hy (fun a ha=>(hm a).2 (fun q hq=>by rw[ha];exact hn q hq));rw[List.flatMap_cons];refine Iq k1 (Qx hy Q (P++[p]) l' (by rw[List.append_assoc];exact hP) ((Gn (b':=⟨kind,name,l'⟩) h rfl rfl).2 k2) (fun a=>⟨fun ha=>?_,fun ha=>?_⟩))
  ·by_cases e:a.key=p.1
   ·exact(k3 a).1 e
   ·rw[(k3 a).2 e];obtain⟨q,hq,hk⟩:=ha;rcases List.mem_append.1 hq with hq | hq
    ·exact(hm a).1 ⟨q,hq,hk⟩
    ·rw[List.mem_singleton.1 hq]at hk;exact absurd hk.symm e
  ·rw[(k3 a).2 (fun e=>ha p (by simp) e.symm)];exact(hm a).2 (fun q hq=>ha q (List.mem_append_left _ hq))
def Kt(A:List PBlock)(b:PBlock):Option PBlock:=Gb A b.kind b.name
theorem Ae5{D T:List PBlock}(hA:Ax A)(h:Ax (D++T)):Ax (D++T.filterMap (Kt A)):=by
 have hl:=List.length_filterMap_le (Kt A) T;have h1:=h.1;rw[List.length_append]at h1;have h2:=List.pairwise_append.1 h.2.2;refine⟨by rw[List.length_append];omega,fun b hb=>?_,List.pairwise_append.2 ⟨h2.1,?_,fun d hd t ht=>?_⟩⟩
 ·rcases List.mem_append.1 hb with hb | hb
  ·exact h.2.1 b (List.mem_append_left _ hb)
  ·obtain⟨t,_,e⟩:=List.mem_filterMap.1 hb;exact hA.2.1 b (En e).1
 ·rw[List.pairwise_filterMap];refine h2.2.1.imp (fun {a b} hab a' ea b' eb=>?_);have ha:=En ea;have hb:=En eb;rw[Hs ha.2.1 ha.2.2 hb.2.1 hb.2.2];exact hab
 ·obtain⟨b,hb,e⟩:=List.mem_filterMap.1 ht;have:=En e;rw[Hs rfl rfl this.2.1 this.2.2];exact h2.2.2 d hd b hb
theorem Qy{A:List PBlock}(hA:Ax A):∀(T D:List PBlock),Ax (D++T)→Hr (D++T.filterMap (Kt A)) (T.flatMap (Ed A))=some (D++T)
 | [],D,h=>by simp[Hr]
 | y::T,D,h=>by
  have h1:Ax (D++y::T.filterMap (Kt A)):=by
   have:=Ae5 (A:=A) (D:=D++[y]) (T:=T) hA (by rw[List.append_assoc];exact h);rw[List.append_assoc]at this;exact this
  have hr:=Qy hA T (D++[y]) (by rw[List.append_assoc];exact h);rw[List.append_assoc,List.append_assoc]at hr;rw[List.flatMap_cons];refine Iq (A':=D++y::T.filterMap (Kt A)) ?_ hr;unfold Ed;cases e:A.find? (Bc y.kind y.name) with
  | none =>
   rw[List.filterMap_cons_none (show Kt A y=none from e)];have h2:=Kk h1.heads (Cu.2 ⟨rfl,rfl⟩);have hf:headFault (D++T.filterMap (Kt A)) y.kind y.name=0:=by
    have hb:=h1.2.1 y (by simp);have hl:=h1.1;rw[List.length_append,List.length_cons]at hl;refine Dl.2 ⟨hb.1,hb.2.1,fun o ho k=>?_,by rw[List.length_append];omega⟩;have:=Cu.2 k;rcases List.mem_append.1 ho with ho | ho
    ·rw[h2.1 o ho]at this;cases this
    ·rw[h2.2 o ho]at this;cases this
   obtain⟨h3,h4⟩:=(Nd (b:=y) (Jo h1)).2 ⟨hf,(h1.2.1 y (by simp)).2.2⟩;refine K3 ((Pz (c:=Sc y) rfl h3 rfl h4).trans (congrArg some (Se h4.2.2 h1.2.2 (fun a=>?_))));rw[show (⟨(Sc y).kind,(Sc y).name,(Sc y).lines⟩:PBlock)=y from rfl,(Fp blockLt y _).mem_iff];simp only[List.mem_cons,List.mem_append];exact⟨fun k=>by rcases k with k | k | k <;> simp[k],fun k=>by rcases k with k | k | k <;> simp[k]⟩
  | some x =>
   rw[List.filterMap_cons_some (show Kt A y=some x from e)];obtain⟨hx,hk,hn⟩:=En (show Gb A y.kind y.name=some x from e);have h2:Ax (D++⟨x.kind,x.name,x.lines⟩::T.filterMap (Kt A)):=(Gn (b':=x) h1 hk hn).2 (hA.2.1 x hx).2.2;have h3:=Qx (kind:=x.kind) (name:=x.name) (x:=x.lines) (y:=y.lines) (by rw[hk];exact(h.2.1 y (by simp)).2.2) (rulesOf x.kind) [] x.lines rfl h2 (fun a=>⟨fun⟨p,hp,_⟩=>(by cases hp),fun _=>Iff.rfl⟩);rw[show (⟨x.kind,x.name,y.lines⟩:PBlock)=y by rw[hk,hn]]at h3;exact h3
theorem Qz{B:List PBlock}(hA:Ax A)(hB:Ax B):Hr A (diffS A B)=some B:=by
 unfold diffS;rw[if_pos ⟨Bh.2 hA,Bh.2 hB⟩];have h1:=L0 (fun a=>(B.find? (Bc a.kind a.name)).isNone) A [] hA;have h2:=Qy hA B [] hB;refine Iq h1 ?_;rw[show []++A.filter (fun a=>!(B.find? (Bc a.kind a.name)).isNone)=[]++B.filterMap (Kt A) from ?_]
 ·exact h2
 ·refine Se (hA.2.2.sublist List.filter_sublist) (Ae5 (D:=[]) hA hB).2.2 (fun a=>?_);simp only[List.nil_append,List.mem_filter,List.mem_filterMap];refine⟨fun⟨k1,k2⟩=>?_,fun⟨b,k1,k2⟩=>?_⟩
  ·cases e:B.find? (Bc a.kind a.name) with
   | none=>rw[e]at k2;cases k2
   | some b =>
    have hb:=En (show Gb B a.kind a.name=some b from e);refine⟨b,hb.1,?_⟩;unfold Kt;rw[hb.2.1,hb.2.2];exact Ou hA.heads k1
  ·have hb:=En k2;refine⟨hb.1,?_⟩;rw[hb.2.1,hb.2.2,show B.find? (Bc b.kind b.name)=some b from Ou hB.heads k1];rfl
theorem Z9{B:List PBlock}(hA:Ax A)(hB:Ax B):applyS A (diffS A B)=(B,0):=by
 unfold applyS;rw[if_pos (Bh.2 hA)];exact X5 0 (Qz hA hB)
theorem Sw(hA:Ax A):diffS A A=[]:=by
 unfold diffS;rw[if_pos ⟨Bh.2 hA,Bh.2 hA⟩];have h1:∀ a∈A,A.find? (Bc a.kind a.name)=some a:=fun a ha=>Ou hA.heads ha
 have h2:goneS A A=[]:=by
  unfold goneS;rw[List.filter_eq_nil_iff.2 (fun a ha=>by rw[h1 a ha];simp)];rfl
 rw[h2,List.nil_append,List.flatMap_eq_nil_iff];intro a ha;unfold Ed;rw[h1 a ha];refine List.flatMap_eq_nil_iff.2 (fun p _=>?_);unfold Fj;exact if_pos rfl
theorem X6{B:List PBlock}(hA:Ax A)(hB:Ax B):diffS A B=[]↔A=B :=
 ⟨fun h=>by have:=Qz hA hB;rw[h]at this;exact Option.some.inj this,fun h=>by rw[← h];exact Sw hA⟩
end Go.Proofs.YtpdahhnjhggocaaGreatDoor
