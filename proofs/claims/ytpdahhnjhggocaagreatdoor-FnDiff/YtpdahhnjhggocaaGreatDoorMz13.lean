import Derived.Test.YtpdahhnjhggocaaGreatDoorMz7
import Derived.Test.YtpdahhnjhggocaaGreatDoorMz12
namespace Go.Proofs.YtpdahhnjhggocaaGreatDoor
open Go.RowKit
set_option maxHeartbeats 16000000
set_option maxRecDepth 100000
variable {ns:List Int}{ws:List (List UInt8)}{k B n m ca cb nw:Nat}{ao bo:Option Addr}{many:Bool}{w:World}
def C0(ns:List Int)(ws:List (List UInt8)):Bool:=decide (ns.length=ws.length) && (List.zipWith Jy ns ws).all id
def Hp(ns:List Int)(ws:List (List UInt8))(k:Nat):Prop:=((List.zipWith Jy ns ws).take k).all id=true
theorem K8(h:¬ ns.length=ws.length):C0 ns ws=false:=by unfold C0;rw[decide_eq_false h];rfl
theorem L5(k:Nat)(h1:k<ns.length)(h2:k<ws.length)(h:Jy ns[k] ws[k]=false):C0 ns ws=false:=by
 unfold C0;rw[Bool.and_eq_false_iff];right;rw[List.all_eq_false];refine⟨false,?_,by simp⟩;rw[List.mem_iff_getElem];exact⟨k,by simp;omega,by simp[h]⟩
theorem Hp.zero(ns:List Int)(ws:List (List UInt8)):Hp ns ws 0:=by simp[Hp]
theorem Hp.succ(H:Hp ns ws k)(h1:k<ns.length)(h2:k<ws.length)(h:Jy ns[k] ws[k]=true):Hp ns ws (k+1):=by
 unfold Hp at H ⊢;rw[List.take_succ_eq_append_getElem (by simp;omega),List.all_append,H];simp[h]
theorem Hp.all(H:Hp ns ws ns.length)(hl:ns.length=ws.length):C0 ns ws=true:=by
 unfold C0 Hp at *;rw[List.take_of_length_le (by simp;omega)]at H;rw[H,decide_eq_true hl];rfl
theorem M3(ns:List Int)(j:Nat)(h:j<ns.length):(Dq ns)[j]?=some (.int .i64 ns[j]):=by simp[Dq,h]
theorem Rc{cw:Nat}{wo:Option Addr}{key:ByteArray}(h1:w.ownsRow B 3 1 (.slice ao n ca) n (Dq ns))(h2:An w (.slice wo nw cw) nw 1 (strs ws))(hn:n≤1000)(hw:nw≤1048576)(ht:∀ t∈ns,1≤t∧t≤6)(hs:∀ x∈ws,x.length≤1048576)(hst:Dx w):
  Calls Tryz.prog 180 #[.agg #[.string key,.slice ao n ca,.bool many,.slice bo m cb],.slice wo nw cw] w fun e w'=>e=.returned (.bool (C0 ns ws))∧Below w.heap.size w w':=by
 have l1:ns.length=n:=by have:=h1.1;rw[F7]at this;omega
 have l2:ws.length=nw:=by have:=h2.1;rw[Ev]at this;omega
 by_cases hlen:nw=n
 ·subst hlen;have hn0:((nw:Int) != (nw:Int))=false:=by simp
  obtain⟨_,_,ea,f1⟩:=Ai h1;cases ea
  have B0:=(Below.refl w.heap.size w).alloc (Nat.le_refl _) (.cells #[.string key,.slice ao nw ca,.bool many,.slice bo m cb] 54);go_enter Tryz.func180,Tryz.ntmps180;go_wp2;go_loopw [16] (fun i wr=>∃ j:Nat,j≤nw∧i=.int .i64 (j:Int)∧Below w.heap.size w wr∧Hp ns ws j) (fun i _=>nw - (intOf i).toNat)
  case atStart=>exact⟨0,by omega,rfl,B0,Hp.zero _ _⟩
  case round =>
   obtain⟨j,hj,rfl,hbw,hA⟩:=hrel;by_cases hlt:j<nw
   ·rcases f1 with f1 | ⟨g,rfl⟩
    ·omega
    obtain⟨h,off,rfl,c2⟩:=(h2.below hbw).word j (by omega);have c1:=(Cd h1 hbw).cellAt j (by omega);rw[M3 ns j (by omega)]at c1;have H:=fun W hW=>Abj ns[j] (ht _ (List.getElem_mem _)).1 (ht _ (List.getElem_mem _)).2 ⟨ws[j].toArray⟩ W (by simpa [ByteArray.size] using hs ws[j] (List.getElem_mem _)) hW
    have hst':=hst.below hbw;cases hf:Jy ns[j] ws[j]
    ·have HB:=Aa (L5 j (by omega) (by omega) hf).symm;have H':∀ W,Dx W→Calls Tryz.prog 225 #[.int .i64 ns[j],.string ⟨ws[j].toArray⟩] W fun e w'=>e=.returned (.bool false)∧Below W.heap.size W w':=by rw[← hf];exact H
     generalize ns[j]=x at *;generalize (⟨ws[j].toArray⟩:ByteArray)=y at *;clear H hA hf hs ht h1 h2 hst B0;go_wp2_with (go_at_call 225;refine(H' _ hst').mono ?_;rintro e w1 ⟨rfl,b1⟩)
     go_ret;exact⟨Av HB.out,hbw.trans (b1.mono hbw.size)⟩
    ·have HA:=hA.succ (by omega) (by omega) hf;have H':∀ W,Dx W→Calls Tryz.prog 225 #[.int .i64 ns[j],.string ⟨ws[j].toArray⟩] W fun e w'=>e=.returned (.bool true)∧Below W.heap.size W w':=by rw[← hf];exact H
     generalize ns[j]=x at *;generalize (⟨ws[j].toArray⟩:ByteArray)=y at *;clear H hA hf hs ht h1 h2 hst B0;go_wp2_with (go_at_call 225;refine(H' _ hst').mono ?_;rintro e w1 ⟨rfl,b1⟩)
     go_roundw;case rel=>exact⟨j+1,by omega,by go_num,hbw.trans (b1.mono hbw.size),HA⟩
     case measure=>simp[intOf];omega
   ·obtain rfl:j=nw:=by omega
    have HB:=Aa (Hp.all (by rw[l1];exact hA) (by omega)).symm;clear hA;go_wp2;go_ret;exact⟨Av HB.out,hbw⟩
 ·have hn0:((nw:Int) != (n:Int))=true:=by rw[bne_iff_ne];omega
  have HB:=Aa (K8 (ns:=ns) (ws:=ws) (by omega)).symm;have B0:=(Below.refl w.heap.size w).alloc (Nat.le_refl _) (.cells #[.string key,.slice ao n ca,.bool many,.slice bo m cb] 54);clear h1 h2 hs ht;go_enter Tryz.func180,Tryz.ntmps180;go_wp2;go_ret;exact⟨Av HB.out,B0⟩
variable {R:List Plain}
def Cp(R:List Plain)(key:ByteArray):Option Plain:=R.find? (fun p=>p.1.toList == key.toList)
def Ds(R:List Plain)(key:ByteArray)(ws:List (List UInt8)):Bool:=match Cp R key with
 | some p=>C0 p.2.1 ws
 | none=>false
theorem Hf{key:ByteArray}{p:Plain}(ws:List (List UInt8))(h:Cp R key=some p):Ds R key ws=C0 p.2.1 ws:=by unfold Ds;rw[h]
theorem Dy{key:ByteArray}(ws:List (List UInt8))(h:Cp R key=none):Ds R key ws=false:=by unfold Ds;rw[h]
def Cz(L:List Ce)(key:ByteArray)(k:Nat):Prop:=∀ r∈L.take k,(r.key.toList == key.toList)=false
theorem Cz.zero(L:List Ce)(key:ByteArray):Cz L key 0:=by simp[Cz]
theorem Cz.succ{D T:List Ce}{r:Ce}{key:ByteArray}(h:Cz (D++r::T) key D.length)(hr:(r.key.toList == key.toList)=false):Cz (D++r::T) key (D.length+1):=by
 unfold Cz at *;rw[List.take_append_of_le_length (Nat.le_refl _),List.take_length]at h;rw[List.take_append,List.take_of_length_le (by omega),show D.length+1 - D.length=1 from by omega];intro s hs;simp only[List.take_succ_cons,List.take_zero,List.mem_append,List.mem_singleton]at hs;rcases hs with hs | rfl
 ·exact h s hs
 ·exact hr
theorem Cz.none{L:List Ce}{key:ByteArray}(h:Cz L key L.length):Cp (L.map Ce.plain) key=none:=by
 unfold Cz at h;rw[List.take_length]at h;unfold Cp;rw[List.find?_eq_none];intro p hp;obtain⟨r,hr,rfl⟩:=List.mem_map.1 hp;rw[show (Ce.plain r).1=r.key from rfl,h r hr];decide
theorem Cz.hit{D T:List Ce}{r:Ce}{key:ByteArray}(h:Cz (D++r::T) key D.length)(hr:(r.key.toList == key.toList)=true):Cp ((D++r::T).map Ce.plain) key=some r.plain:=by
 unfold Cz at h;rw[List.take_append_of_le_length (Nat.le_refl _),List.take_length]at h;unfold Cp;rw[List.map_append,List.find?_append,List.find?_eq_none.2,Option.none_or,List.map_cons,List.find?_cons_of_pos]
 ·exact hr
 ·intro p hp;obtain⟨s,hs,rfl⟩:=List.mem_map.1 hp;rw[show (Ce.plain s).1=s.key from rfl,h s hs];decide
def Adl(R:List Plain):Prop:=R.length≤12∧∀ p∈R,p.2.1.length≤3∧∀ t∈p.2.1,1≤t∧t≤6
theorem C5(kind:ByteArray):Adl (rulesOf kind):=by
 unfold rulesOf;split
 ·exact⟨by decide,by decide⟩
 ·split
  ·exact⟨by decide,by decide⟩
  ·split
   ·exact⟨by decide,by decide⟩
   ·exact⟨by decide,by simp⟩
def R6(R:List Plain)(key:ByteArray)(e:Ending):Prop:=(Cp R key=none∧e=.returned (.int .i64 (-1)))∨∃ D p T,R=D++p::T∧Cp R key=some p∧e=.returned (.int .i64 (D.length:Int))
theorem Abl{D T:List Ce}{r:Ce}{key:ByteArray}(h:Cp ((D++r::T).map Ce.plain) key=some r.plain):R6 ((D++r::T).map Ce.plain) key (.returned (.int .i64 (D.length:Int))) :=
 .inr ⟨D.map Ce.plain,r.plain,T.map Ce.plain,by simp,h,by simp⟩
theorem Pv(kind key:ByteArray)(w:World):Calls Tryz.prog 90 #[.string kind,.string key] w fun e w'=>Below w.heap.size w w'∧R6 (rulesOf kind) key e:=by
 have hsm:=C5 kind;have HS:=D5 kind w;generalize rulesOf kind=R at hsm HS ⊢;go_enter Tryz.func90,Tryz.ntmps90;go_wp2_with (go_at_call 56;refine HS.mono ?_)
 rintro e w1 ⟨v,L,rfl,hp,hr,hb⟩;clear HS;have hr':=hr.rm;obtain⟨ao,cap,rfl,f1⟩:=Ai (show w1.ownsRow w.heap.size 54 4 v L.length (L.flatMap Ce.cells) from A8.head hr);have hl:L.length≤12:=by have:=hsm.1;rw[← hp,List.length_map]at this;exact this
 generalize hn:L.length=n at *;go_wp2;go_loop [6] (fun i=>∃ j:Nat,j≤n∧i=.int .i64 (j:Int)∧Cz L key j) (fun i=>n - (intOf i).toNat)
 case atStart=>exact⟨0,by omega,rfl,Cz.zero _ _⟩
 case round =>
  obtain⟨j,hj,rfl,hA⟩:=hrel;by_cases hlt:j<n
  ·rcases f1 with f1 | ⟨g,rfl⟩
   ·omega
   obtain⟨D,r,T,rfl,hD⟩:=Br L j (by omega);have c0:=hr'.cell 0 (by decide);obtain⟨rk,va,ns,many,vd,ds⟩:=r;simp only[Ce.cells,hD,List.getElem?_cons_zero,Nat.add_zero]at c0;subst hD;cases hk:(rk.toList == key.toList)
   ·have HA:=hA.succ hk;clear hA hr hr' hsm;go_wp2;go_round
    case rel=>exact⟨D.length+1,by omega,by go_num,HA⟩
    case measure=>simp[intOf];omega
   ·have HA:=Aa (hA.hit hk);clear hA hr hr' hsm;go_wp2;go_ret;subst hp;exact⟨hb,Abl HA.out⟩
  ·obtain rfl:j=n:=by omega
   have HA:=Aa (Cz.none (hn ▸ hA));clear hA hr hr' hsm;go_wp2;go_ret;exact⟨hb,.inl ⟨hp ▸ HA.out,rfl⟩⟩
theorem S3{cw:Nat}{wo:Option Addr}(kind key:ByteArray)(h2:An w (.slice wo nw cw) nw 1 (strs ws))(hw:nw≤1048576)(hs:∀ x∈ws,x.length≤1048576):
  Calls Tryz.prog 120 #[.string kind,.string key,.slice wo nw cw] w fun e w'=>e=.returned (.bool (Ds (rulesOf kind) key ws))∧Below w.heap.size w w':=by
 have l2:ws.length=nw:=by have:=h2.1;rw[Ev]at this;omega
 have hsm:=C5 kind;have HS:=fun W=>D5 kind W
 have HR:=Pv kind key w;generalize rulesOf kind=R at hsm HS HR ⊢;go_enter Tryz.func120,Tryz.ntmps120;go_wp2_with (go_at_call 90;refine HR.mono ?_)
 rintro e w1 ⟨b1,⟨hp,rfl⟩ | ⟨D,p,T,rfl,hp,rfl⟩⟩
 ·clear HS HR;go_wp2;go_ret;exact⟨Av (Dy ws hp).symm,b1⟩
 ·clear HR;have hk0:¬ ((D.length:Int)<0):=by omega
  go_wp2_with (go_at_call 56;refine(HS w1).mono ?_)
  rintro e w2 ⟨v,L,rfl,hpl,hr,b2⟩;have hLl:L.length=D.length+(T.length+1):=by have:=congrArg List.length hpl;simpa using this
  obtain⟨D',r,T',rfl,hD⟩:=Br L D.length (by omega);have hrp:r.plain=p:=by
   have:=congrArg (fun l=>l[D.length]?) hpl;simp only[List.map_append,List.map_cons]at this;rw[List.getElem?_append_right (by simp;omega),List.getElem?_append_right (by simp)]at this;simpa [hD] using this
  have hr':=hr.rm;have hsp:=hsm.2 p (by simp);have HF:=Aa (show C0 r.plain.2.1 ws=Ds (D++p::T) key ws by rw[hrp,Hf ws hp]);rw[← hrp]at hsp;obtain⟨ao,cap,rfl,f1⟩:=Ai (show w2.ownsRow w1.heap.size 54 4 v (D'++r::T').length ((D'++r::T').flatMap Ce.cells) from A8.head hr);rcases f1 with f1 | ⟨g,rfl⟩
  ·simp at f1
  have c1:=hr'.cell 1 (by decide);have o1:=hr'.args;obtain⟨rk,va,ns,many,vd,ds⟩:=r;simp only[Ce.cells,Ce.plain,hD,List.getElem?_cons_zero,List.getElem?_cons_succ]at c1 o1 hsp HF;have l1:ns.length≤3:=hsp.1;have hN:(D'++⟨rk,va,ns,many,vd,ds⟩::T').length=D.length+(T.length+1):=hLl;rw[hN];have h2':=(h2.below b1).below b2;generalize hns:ns.length=n at *;obtain⟨bo,cb,rfl,f1⟩:=Ai o1;have hlt:(D.length:Int)<((D.length+(T.length+1):Nat):Int):=by omega
  have b12:=b1.trans (b2.mono b1.size);clear HS hr hr' hsm hrp hpl hp h2 hLl;by_cases hlen:n=nw
  ·subst hlen;have hn0:((n:Int) != (n:Int))=false:=by simp
   go_wp2;go_loopw [9] (fun i wr=>∃ j:Nat,j≤n∧i=.int .i64 (j:Int)∧Below w2.heap.size w2 wr∧Hp ns ws j) (fun i _=>n - (intOf i).toNat)
   case atStart=>exact⟨0,by omega,rfl,Below.refl _ _,Hp.zero _ _⟩
   case round =>
    obtain⟨j,hj,rfl,hbw,hA⟩:=hrel;by_cases hlt:j<n
    ·rcases f1 with f1 | ⟨q,rfl⟩
     ·omega
     obtain⟨h,off,rfl,c2⟩:=(h2'.below hbw).word j (by omega);have c1:=(Cd o1 hbw).cellAt j (by omega);rw[M3 ns j (by omega)]at c1;have H:=fun W=>Yx ns[j] (hsp.2 _ (List.getElem_mem _)).1 (hsp.2 _ (List.getElem_mem _)).2 ⟨ws[j].toArray⟩ W (by simpa [ByteArray.size] using hs ws[j] (List.getElem_mem _))
     have e1:=World.block_lt_of_cell? wr _ c1;have e2:=World.block_lt_of_cell? wr _ c2;cases hf:Jy ns[j] ws[j]
     ·have HB:=Aa (show false=Ds (D++p::T) key ws by rw[← HF.out];exact(L5 j (by omega) (by omega) hf).symm);have H':∀ W,Calls Tryz.prog 171 #[.int .i64 ns[j],.string ⟨ws[j].toArray⟩] W fun e w'=>e=.returned (.bool false)∧Below W.heap.size W w':=by rw[← hf];exact H
      generalize ns[j]=x at *;generalize (⟨ws[j].toArray⟩:ByteArray)=y at *;clear H hA hf hs hsp o1 h2' HF;go_wp2
      go_region_held3 (fun W=>W.cell? ⟨q,j,none⟩=some (.int .i64 x)∧W.cell? ⟨h,off+j,none⟩=some (.string y))
       (first | go_keep | (refine⟨(b3.cell e1).trans c1,(b3.cell e2).trans c2⟩))
       (first | (go_at_call 171;refine(H' _).mono ?_;rintro e w3 ⟨rfl,b3⟩))
      all_goals
       go_wp2;go_ret;exact⟨Av HB.out,b12.trans ((hbw.trans (((Below.refl wr.heap.size wr).drew.trans b3).mono hbw.size)).mono b12.size)⟩
     ·have HA:=hA.succ (by omega) (by omega) hf;have H':∀ W,Calls Tryz.prog 171 #[.int .i64 ns[j],.string ⟨ws[j].toArray⟩] W fun e w'=>e=.returned (.bool true)∧Below W.heap.size W w':=by rw[← hf];exact H
      generalize ns[j]=x at *;generalize (⟨ws[j].toArray⟩:ByteArray)=y at *;clear H hA hf hs hsp o1 h2' HF;go_wp2
      go_region_held3 (fun W=>W.cell? ⟨q,j,none⟩=some (.int .i64 x)∧W.cell? ⟨h,off+j,none⟩=some (.string y))
       (first | go_keep | (refine⟨(b3.cell e1).trans c1,(b3.cell e2).trans c2⟩))
       (first | (go_at_call 171;refine(H' _).mono ?_;rintro e w3 ⟨rfl,b3⟩))
      all_goals
       go_wp2;go_roundw;case rel=>exact⟨j+1,by omega,by go_num,hbw.trans (((Below.refl wr.heap.size wr).drew.trans b3).mono hbw.size),HA⟩
       case measure=>simp[intOf];omega
    ·obtain rfl:j=n:=by omega
     have HB:=Aa (show true=Ds (D++p::T) key ws by rw[← HF.out];exact(Hp.all (by rw[hns];exact hA) (by omega)).symm);clear hA HF;go_wp2;go_ret;exact⟨Av HB.out,b12.trans (hbw.mono b12.size)⟩
  ·have hn0:((n:Int) != (nw:Int))=true:=by rw[bne_iff_ne];omega
   have HB:=Aa (show false=Ds (D++p::T) key ws by rw[← HF.out,K8 (by omega)]);go_wp2;go_ret;exact⟨Av HB.out,b12⟩
end Go.Proofs.YtpdahhnjhggocaaGreatDoor
