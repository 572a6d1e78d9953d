import Derived.Test.YtpdahhnjhggocaaGreatDoorMu3
import Derived.Test.YtpdahhnjhggocaaGreatDoorMu4
import Derived.Laws.Bits64
import Derived.OpenShut
open Go.Proofs.Tryz
open Go.Value renaming slice->aA,pointer->aQ,slice->aS,agg->cB,string->cD,tuple->cI
open List renaming mem_singleton->aB,getElem_mem->aI,getElem?_cons_zero->aK,getElem?_cons_succ->aO,not_mem_nil->aR,mem_cons->aT,take_length->aX,take_append_of_le_length->aY,getElem?_append_right->bC,take_of_length_le->bH,mem_map->bI,getElem?_toArray->bL,find?_eq_none->bQ,mem_append->bV,map_append->bW,length_map->bX,map_cons->cE,zipWith->cG
open Option renaming none->aC,some->aE
open Go.Lib renaming cell_of_heap->aD,frozen_of_heap->aN
open Nat renaming le_refl->aF,le_trans->aU,add_mul->bA,mul_le_mul->bE,mod_lt->bF,add_zero->bK,lt_of_lt_of_le->bR,mod_eq_of_lt->bU,div_le_self->bZ,mul_assoc->cF,mul_two->cH
open Go.RowKit.Below renaming refl->aG
open Go.Obj renaming cells->aH
open Go.Ending renaming returned->aJ
open Go.World renaming grownBy_alloc->aL,block_lt_of_cell?->aP,ownsRow_nil->bP,setRow->cC
open ByteArray renaming size_append->aM,size->bO
open Go.ByteArray renaming toList_eq->aV
open BitVec renaming ofInt->aW,ofInt_natCast->bJ,toNat_ofNat->bN
open Int renaming natCast_emod->aZ,emod_lt_of_pos->bS,toNat_natCast->bT,emod_nonneg->cA
open Array renaming getElem?_eq_some_iff->bB
open Go.World.ownsRow renaming lt->bD
open Or renaming inr->bG,inl->bM
open Go.Operand renaming tmp->bY
namespace Go.Proofs.YtpdahhnjhggocaaGreatDoor
open Go.RowKit
set_option maxHeartbeats 16000000
set_option maxRecDepth 100000
variable {ns:List Int}{ws:List (List UInt8)}{k B n m ca cb nw:Nat}{ao bo:Option Addr}{many:Bool}{w:World}
def BD(ns:List Int)(ws:List (List UInt8)):Bool:=decide (ns.length=ws.length)&&(cG Fj ns ws).all id
def ES(ns:List Int)(ws:List (List UInt8))(k:Nat):Prop:=((cG Fj ns ws).take k).all id=true
theorem Iv(h:¬ns.length=ws.length):BD ns ws=false:=by unfold BD;rw[decide_eq_false h];rfl
theorem Jn(k:Nat)(h1:k<ns.length)(a:k<ws.length)(h:Fj ns[k] ws[k]=false):BD ns ws=false:=by
 unfold BD;rw[Bool.and_eq_false_iff];right;rw[List.all_eq_false];refine⟨false,?_,by simp⟩;rw[List.mem_iff_getElem];exact⟨k,by simp;omega,by simp[h]⟩
theorem ES.zero(ns:List Int)(ws:List (List UInt8)):ES ns ws 0:=by simp[ES]
theorem ES.succ(a:ES ns ws k)(h1:k<ns.length)(b:k<ws.length)(h:Fj ns[k] ws[k]=true):ES ns ws (k+1):=by
 unfold ES at a⊢;rw[List.take_succ_eq_append_getElem (by simp;omega),List.all_append,a];simp[h]
theorem ES.all(a:ES ns ws ns.length)(b:ns.length=ws.length):BD ns ws=true:=by
 unfold BD ES at *;rw[bH (by simp;omega)]at a;rw[a,decide_eq_true b];rfl
theorem Kk(ns:List Int)(j:Nat)(h:j<ns.length):(C3 ns)[j]?=aE (.int .i64 ns[j]):=by simp[C3,h]
theorem Oo{u:Nat}{v:Option Addr}{key:ByteArray}(h1:w.ownsRow B 3 1 (aA ao n ca) n (C3 ns))(c:Ap w (aA v nw u) nw 1 (strs ws))(I:n<=1000)(J:nw<=1048576)(d:∀t∈ns,1<=t/\t<=6)(o:∀x∈ws,x.length<=1048576)(q:BJ w):
  Calls prog 180 #[cB #[.string key,aA ao n ca,.bool many,aA bo m cb],aA v nw u] w fun e w'=>e=aJ (.bool (BD ns ws))/\Below w.heap.size w w':=by
 have C:ns.length=n:=by have:=h1.1;rw[DU]at this;omega
 have K:ws.length=nw:=by have:=c.1;rw[CO]at this;omega
 by_cases D:nw=n
 ·subst D;have E:((nw:Int) != (nw:Int))=false:=by simp
  obtain⟨_,_,ea,z⟩:=Ak h1;cases ea
  have f:=(aG w.heap.size w).alloc (aF _) (aH #[.string key,aA ao nw ca,.bool many,aA bo m cb] 54);go_enter func180,ntmps180;go_wp2;go_loopw [16] (fun i wr=>∃j:Nat,j<=nw/\i=.int .i64 (j:Int)/\Below w.heap.size w wr/\ES ns ws j) (fun i _=>nw-(intOf i).toNat)
  case atStart=>exact⟨0,by omega,rfl,f,ES.zero _ _⟩
  case round =>
   obtain⟨j,L,rfl,a,k⟩:=hrel;by_cases M:j<nw
   ·rcases z with z | ⟨g,rfl⟩
    ·omega
    obtain⟨h,off,rfl,c2⟩:=(c.V a).word j (by omega);have F:=(AL h1 a).cellAt j (by omega);rw[Kk ns j (by omega)]at F;have p:=fun W G=>Xy ns[j] (d _ (aI _)).1 (d _ (aI _)).2 ⟨ws[j].toArray⟩ W (by simpa [bO] using o ws[j] (aI _)) G
    have A:=q.V a;cases b:Fj ns[j] ws[j]
    ·have l:=Aa (Jn j (by omega) (by omega) b).symm;have r:∀W,BJ W->Calls prog 225 #[.int .i64 ns[j],.string ⟨ws[j].toArray⟩] W fun e w'=>e=aJ (.bool false)/\Below W.heap.size W w':=by rw[<-b];exact p
     generalize ns[j]=x at *;generalize (⟨ws[j].toArray⟩:ByteArray)=y at *;clear p k b o d h1 c q f;go_wp2_with (go_at_call 225;refine(r _ A).mono ?_;rintro e w1 ⟨rfl,s⟩)
     go_ret;exact⟨Au l.out,a.trans (s.mono a.size)⟩
    ·have H:=k.succ (by omega) (by omega) b;have r:∀W,BJ W->Calls prog 225 #[.int .i64 ns[j],.string ⟨ws[j].toArray⟩] W fun e w'=>e=aJ (.bool true)/\Below W.heap.size W w':=by rw[<-b];exact p
     generalize ns[j]=x at *;generalize (⟨ws[j].toArray⟩:ByteArray)=y at *;clear p k b o d h1 c q f;go_wp2_with (go_at_call 225;refine(r _ A).mono ?_;rintro e w1 ⟨rfl,s⟩)
     go_roundw;case rel=>exact⟨j+1,by omega,by go_num,a.trans (s.mono a.size),H⟩
     case measure=>simp[intOf];omega
   ·obtain rfl:j=nw:=by omega
    have l:=Aa (ES.all (by rw[C];exact k) (by omega)).symm;clear k;go_wp2;go_ret;exact⟨Au l.out,a⟩
 ·have E:((nw:Int) != (n:Int))=true:=by rw[bne_iff_ne];omega
  have l:=Aa (Iv (ns:=ns) (ws:=ws) (by omega)).symm;have f:=(aG w.heap.size w).alloc (aF _) (aH #[.string key,aA ao n ca,.bool many,aA bo m cb] 54);clear h1 c o d;go_enter func180,ntmps180;go_wp2;go_ret;exact⟨Au l.out,f⟩
variable {R:List Plain}{L:List AO}
def Bt(R:List Plain)(key:ByteArray):Option Plain:=R.find? (fun p=>p.1.toList==key.toList)
def BR(R:List Plain)(key:ByteArray)(ws:List (List UInt8)):Bool:=match Bt R key with
 | some p=>BD p.2.1 ws
 | none=>false
theorem EA{key:ByteArray}{p:Plain}(ws:List (List UInt8))(h:Bt R key=aE p):BR R key ws=BD p.2.1 ws:=by unfold BR;rw[h]
theorem Cq{key:ByteArray}(ws:List (List UInt8))(h:Bt R key=aC):BR R key ws=false:=by unfold BR;rw[h]
def Ca(L:List AO)(key:ByteArray)(k:Nat):Prop:=∀r∈L.take k,(r.key.toList==key.toList)=false
theorem Ca.zero(L:List AO)(key:ByteArray):Ca L key 0:=by simp[Ca]
theorem Ca.succ{D T:List AO}{r:AO}{key:ByteArray}(h:Ca (D++r::T) key D.length)(b:(r.key.toList==key.toList)=false):Ca (D++r::T) key (D.length+1):=by
 unfold Ca at *;rw[aY (aF _),aX]at h;rw[List.take_append,bH (by omega),show D.length+1-D.length=1 from by omega];intro s a;simp only[List.take_succ_cons,List.take_zero,bV,aB]at a;rcases a with a | rfl
 ·exact h s a
 ·exact b
theorem Ca.none{key:ByteArray}(h:Ca L key L.length):Bt (L.map AO.I) key=aC:=by
 unfold Ca at h;rw[aX]at h;unfold Bt;rw[bQ];intro p a;obtain⟨r,b,rfl⟩:=bI.1 a;rw[show (AO.I r).1=r.key from rfl,h r b];decide
theorem Ca.hit{D T:List AO}{r:AO}{key:ByteArray}(h:Ca (D++r::T) key D.length)(a:(r.key.toList==key.toList)=true):Bt ((D++r::T).map AO.I) key=aE r.I:=by
 unfold Ca at h;rw[aY (aF _),aX]at h;unfold Bt;rw[bW,List.find?_append,bQ.2,Option.none_or,cE,List.find?_cons_of_pos]
 ·exact a
 ·intro p b;obtain⟨s,c,rfl⟩:=bI.1 b;rw[show (AO.I s).1=s.key from rfl,h s c];decide
def UT(R:List Plain):Prop:=R.length<=12/\∀p∈R,p.2.1.length<=3/\∀t∈p.2.1,1<=t/\t<=6
theorem Bf(kind:ByteArray):UT (rulesOf kind):=by
 unfold rulesOf;split
 ·exact⟨by decide,by decide⟩
 ·split
  ·exact⟨by decide,by decide⟩
  ·split
   ·exact⟨by decide,by decide⟩
   ·exact⟨by decide,by simp⟩
def OZ(R:List Plain)(key:ByteArray)(e:Ending):Prop:=(Bt R key=aC/\e=aJ (.int .i64 (-1)))\/∃D p T,R=D++p::T/\Bt R key=aE p/\e=aJ (.int .i64 (D.length:Int))
theorem X0{D T:List AO}{r:AO}{key:ByteArray}(h:Bt ((D++r::T).map AO.I) key=aE r.I):OZ ((D++r::T).map AO.I) key (aJ (.int .i64 (D.length:Int))) :=
 .inr ⟨D.map AO.I,r.I,T.map AO.I,by simp,h,by simp⟩
theorem MK(kind key:ByteArray)(w:World):Calls prog 90 #[.string kind,.string key] w fun e w'=>Below w.heap.size w w'/\OZ (rulesOf kind) key e:=by
 have b:=Bf kind;have h:=Da kind w;generalize rulesOf kind=R at b h⊢;go_enter func90,ntmps90;go_wp2_with (go_at_call 56;refine h.mono ?_)
 rintro e w1 ⟨v,L,rfl,k,c,l⟩;clear h;have f:=c.rm;obtain⟨ao,s,rfl,m⟩:=Ak (show w1.ownsRow w.heap.size 54 4 v L.length (L.flatMap AO.cells) from Az.head c);have t:L.length<=12:=by have:=b.1;rw[<-k,bX]at this;exact this
 generalize q:L.length=n at *;go_wp2;go_loop [6] (fun i=>∃j:Nat,j<=n/\i=.int .i64 (j:Int)/\Ca L key j) (fun i=>n-(intOf i).toNat)
 case atStart=>exact⟨0,by omega,rfl,Ca.zero _ _⟩
 case round =>
  obtain⟨j,u,rfl,a⟩:=hrel;by_cases x:j<n
  ·rcases m with m | ⟨g,rfl⟩
   ·omega
   obtain⟨D,r,T,rfl,o⟩:=AS L j (by omega);have c0:=f.cell 0 (by decide);obtain⟨rk,va,ns,many,y,ds⟩:=r;simp only[AO.cells,o,aK,bK]at c0;subst o;cases p:(rk.toList==key.toList)
   ·have d:=a.succ p;clear a c f b;go_wp2;go_round
    case rel=>exact⟨D.length+1,by omega,by go_num,d⟩
    case measure=>simp[intOf];omega
   ·have d:=Aa (a.hit p);clear a c f b;go_wp2;go_ret;subst k;exact⟨l,X0 d.out⟩
  ·obtain rfl:j=n:=by omega
   have d:=Aa (Ca.none (q▸a));clear a c f b;go_wp2;go_ret;exact⟨l,.inl ⟨k▸d.out,rfl⟩⟩
theorem PR{Q:Nat}{S:Option Addr}(kind key:ByteArray)(E:Ap w (aA S nw Q) nw 1 (strs ws))(ah:nw<=1048576)(F:∀x∈ws,x.length<=1048576):
  Calls prog 120 #[.string kind,.string key,aA S nw Q] w fun e w'=>e=aJ (.bool (BR (rulesOf kind) key ws))/\Below w.heap.size w w':=by
 have ai:ws.length=nw:=by have:=E.1;rw[CO]at this;omega
 have G:=Bf kind;have u:=fun W=>Da kind W
 have z:=MK kind key w;generalize rulesOf kind=R at G u z⊢;go_enter func120,ntmps120;go_wp2_with (go_at_call 90;refine z.mono ?_)
 rintro e w1 ⟨A,⟨B,rfl⟩ | ⟨D,p,T,rfl,B,rfl⟩⟩
 ·clear u z;go_wp2;go_ret;exact⟨Au (Cq ws B).symm,A⟩
 ·clear z;have aj:¬((D.length:Int)<0):=by omega
  go_wp2_with (go_at_call 56;refine(u w1).mono ?_)
  rintro e w2 ⟨v,L,rfl,H,I,U⟩;have V:L.length=D.length+(T.length+1):=by have:=congrArg List.length H;simpa using this
  obtain⟨J,r,K,rfl,X⟩:=AS L D.length (by omega);have M:r.I=p:=by
   have:=congrArg (fun l=>l[D.length]?) H;simp only[bW,cE]at this;rw[bC (by simp;omega),bC (by simp)]at this;simpa [X] using this
  have N:=I.rm;have a:=G.2 p (by simp);have b:=Aa (show BD r.I.2.1 ws=BR (D++p::T) key ws by rw[M,EA ws B]);rw[<-M]at a;obtain⟨ao,ak,rfl,f⟩:=Ak (show w2.ownsRow w1.heap.size 54 4 v (J++r::K).length ((J++r::K).flatMap AO.cells) from Az.head I);rcases f with f | ⟨g,rfl⟩
  ·simp at f
  have k:=N.cell 1 (by decide);have o1:=N.args;obtain⟨rk,va,ns,many,aa,ds⟩:=r;simp only[AO.cells,AO.I,X,aK,aO]at k o1 a b;have al:ns.length<=3:=a.1;have ab:(J++⟨rk,va,ns,many,aa,ds⟩::K).length=D.length+(T.length+1):=V;rw[ab];have O:=(E.V A).V U;generalize ac:ns.length=n at *;obtain⟨bo,cb,rfl,f⟩:=Ak o1;have ad:(D.length:Int)<((D.length+(T.length+1):Nat):Int):=by omega
  have o:=A.trans (U.mono A.size);clear u I N G M H B E V;by_cases ae:n=nw
  ·subst ae;have af:((n:Int) != (n:Int))=false:=by simp
   go_wp2;go_loopw [9] (fun i wr=>∃j:Nat,j<=n/\i=.int .i64 (j:Int)/\Below w2.heap.size w2 wr/\ES ns ws j) (fun i _=>n-(intOf i).toNat)
   case atStart=>exact⟨0,by omega,rfl,aG _ _,ES.zero _ _⟩
   case round =>
    obtain⟨j,am,rfl,c,s⟩:=hrel;by_cases ad:j<n
    ·rcases f with f | ⟨q,rfl⟩
     ·omega
     obtain⟨h,off,rfl,c2⟩:=(O.V c).word j (by omega);have k:=(AL o1 c).cellAt j (by omega);rw[Kk ns j (by omega)]at k;have C:=fun W=>UQ ns[j] (a.2 _ (aI _)).1 (a.2 _ (aI _)).2 ⟨ws[j].toArray⟩ W (by simpa [bO] using F ws[j] (aI _))
     have Y:=aP wr _ k;have Z:=aP wr _ c2;cases m:Fj ns[j] ws[j]
     ·have t:=Aa (show false=BR (D++p::T) key ws by rw[<-b.out];exact(Jn j (by omega) (by omega) m).symm);have P:∀W,Calls prog 171 #[.int .i64 ns[j],.string ⟨ws[j].toArray⟩] W fun e w'=>e=aJ (.bool false)/\Below W.heap.size W w':=by rw[<-m];exact C
      generalize ns[j]=x at *;generalize (⟨ws[j].toArray⟩:ByteArray)=y at *;clear C s m F a o1 O b;go_wp2
      go_region_held3 (fun W=>W.cell? ⟨q,j,aC⟩=aE (.int .i64 x)/\W.cell? ⟨h,off+j,aC⟩=aE (.string y))
       (first | go_keep | (refine⟨(d.cell Y).trans k,(d.cell Z).trans c2⟩))
       (first | (go_at_call 171;refine(P _).mono ?_;rintro e w3 ⟨rfl,d⟩))
      all_goals
       go_wp2;go_ret;exact⟨Au t.out,o.trans ((c.trans (((aG wr.heap.size wr).drew.trans d).mono c.size)).mono o.size)⟩
     ·have ag:=s.succ (by omega) (by omega) m;have P:∀W,Calls prog 171 #[.int .i64 ns[j],.string ⟨ws[j].toArray⟩] W fun e w'=>e=aJ (.bool true)/\Below W.heap.size W w':=by rw[<-m];exact C
      generalize ns[j]=x at *;generalize (⟨ws[j].toArray⟩:ByteArray)=y at *;clear C s m F a o1 O b;go_wp2
      go_region_held3 (fun W=>W.cell? ⟨q,j,aC⟩=aE (.int .i64 x)/\W.cell? ⟨h,off+j,aC⟩=aE (.string y))
       (first | go_keep | (refine⟨(d.cell Y).trans k,(d.cell Z).trans c2⟩))
       (first | (go_at_call 171;refine(P _).mono ?_;rintro e w3 ⟨rfl,d⟩))
      all_goals
       go_wp2;go_roundw;case rel=>exact⟨j+1,by omega,by go_num,c.trans (((aG wr.heap.size wr).drew.trans d).mono c.size),ag⟩
       case measure=>simp[intOf];omega
    ·obtain rfl:j=n:=by omega
     have t:=Aa (show true=BR (D++p::T) key ws by rw[<-b.out];exact(ES.all (by rw[ac];exact s) (by omega)).symm);clear s b;go_wp2;go_ret;exact⟨Au t.out,o.trans (c.mono o.size)⟩
  ·have af:((n:Int) != (nw:Int))=true:=by rw[bne_iff_ne];omega
   have t:=Aa (show false=BR (D++p::T) key ws by rw[<-b.out,Iv (by omega)]);go_wp2;go_ret;exact⟨Au t.out,o⟩
section
open Go.Lib (decDigits)
theorem Z0:decDigits 100=[49,48,48]:=by
 rw[decDigits,dif_neg (by decide),decDigits,dif_neg (by decide),decDigits,dif_pos (by decide)];rfl
theorem Acw:decDigits 1000=[49,48,48,48]:=by
 rw[decDigits,dif_neg (by decide),show 1000/10=100 from rfl,Z0];rfl
theorem Agz:decDigits 1=[49]:=by rw[decDigits,dif_pos (by decide)];rfl
theorem Ag0:decDigits 0=[48]:=by rw[decDigits,dif_pos (by decide)];rfl
theorem Z1:CQ [49,48,48]=true:=(E9 _).2 ⟨100,by omega,Z0.symm⟩
theorem Acx:CQ [49,48,48,48]=true:=(E9 _).2 ⟨1000,by omega,Acw.symm⟩
theorem Ag1:CQ [49]=true:=(E9 _).2 ⟨1,by omega,Agz.symm⟩
theorem Ag2:CQ [48]=true:=(E9 _).2 ⟨0,by omega,Ag0.symm⟩
theorem Afo:nameB [122]=true:=by decide
theorem Z2:nameB [99,111,114,101]=true:=by decide
theorem X9:GA [110,111,110,101]=true:=by decide
theorem Afp:UL [110,111]=true:=by decide
def Ju(R:List Plain):Prop:=∀p∈R,p.2.2.1=false->BR R p.1 p.2.2.2=true
theorem XA:Ju teamRules:=by
 intro p a;simp only[teamRules,aT,aR,or_false]at a;rcases a with rfl | rfl <;> intro _ <;> simp[BR,Bt,teamRules,BD,Fj,aV,Z1,Acx]
theorem UX:Ju berthRules:=by
 intro p a;simp only[berthRules,aT,aR,or_false]at a;rcases a with rfl | rfl | rfl | rfl <;> intro b <;> first | (cases b;done) | simp[BR,Bt,berthRules,BD,Fj,aV,Z1,Afo]
theorem PX:Ju serviceRules:=by
 intro p a;simp only[serviceRules,aT,aR,or_false]at a;rcases a with rfl | rfl | rfl | rfl | rfl | rfl | rfl | rfl | rfl | rfl | rfl | rfl <;> intro b <;> first | (cases b;done) | simp[BR,Bt,serviceRules,BD,Fj,aV,Ag1,Ag2,Z2,X9,Afp]
theorem DZ(kind:ByteArray):Ju (rulesOf kind):=by
 unfold rulesOf;split
 ·exact XA
 ·split
  ·exact UX
  ·split
   ·exact PX
   ·intro p a;simp at a
def PY(R:List Plain):Prop:=∀p∈R,p.2.2.2.length<=3/\∀d∈p.2.2.2,d.length<=200
theorem MT(kind:ByteArray):PY (rulesOf kind):=by
 unfold rulesOf;split
 ·unfold PY;decide
 ·split
  ·unfold PY;decide
  ·split
   ·unfold PY;decide
   ·intro p a;simp at a
end
variable {wr W:World}{cs:Array Value}{v:Value}
theorem Al(w:World)(o:Obj):(w.alloc o).heap[w.heap.size]?=aE o:=by
 show (w.heap.push o)[w.heap.size]?=aE o
 rw[Array.getElem?_push_size]
theorem Cj(w:World)(o:Obj)(k:Nat)(h:k<w.heap.size):(w.alloc o).heap[k]?=w.heap[k]?:=by
 show (w.heap.push o)[k]?=_
 rw[Array.getElem?_push_lt h,Array.getElem?_eq_getElem h]
structure ZE(w W:World)(cs:Array Value):Prop where
 block:W.heap[w.heap.size]?=aE (aH cs 54 (0,0))
 V:Below w.heap.size w W
theorem Aeb{b:Array Value}(a:Below w.heap.size w wr)(c:wr.heap[w.heap.size]?=aE (aH b 54 (0,0)))(cs:Array Value):ZE w (wr.setRow w.heap.size cs) cs :=
 ⟨setRow_heap _ _ _ _ _ _ c,⟨a.os,a.tape,a.output,by rw[setRow_size];exact a.size,fun k d=>(setRow_other _ _ _ _ (by omega)).trans (a.block k d)⟩⟩
theorem ZE.cell(h:ZE w W cs)(j:Nat):W.cell? ⟨w.heap.size,j,aC⟩=cs[j]?:=by
 unfold World.cell?;rw[h.block];rfl
def ZF(L:List AO)(key:ByteArray)(e:Ending):Prop:=(Bt (L.map AO.I) key=aC/\e=aJ (cI #[cB #[.string ⟨#[]⟩,aA aC 0 0,.bool false,aA aC 0 0],.bool false]))\/∃r∈L,Bt (L.map AO.I) key=aE r.I/\e=aJ (cI #[cB #[.string r.key,r.va,.bool r.many,r.vd],.bool true])
theorem J4(key:ByteArray)(h:AX B w v L)(C:L.length<=12):Calls prog 93 #[v,.string key] w fun e w'=>Below w.heap.size w w'/\ZF L key e:=by
 have b:=h.rm;obtain⟨ao,E,rfl,s⟩:=Ak (show w.ownsRow B 54 4 v L.length (L.flatMap AO.cells) from Az.head h);generalize z:L.length=n at *;go_enter func93,ntmps93;go_wp2;go_loopw [10] (fun i wr=>∃j:Nat,j<=n/\i=.int .i64 (j:Int)/\Below (w.heap.size+1) (w.alloc (aH #[.string ⟨#[]⟩,aA aC 0 0,.bool false,aA aC 0 0] 54)) wr/\Ca L key j) (fun i _=>n-(intOf i).toNat)
 case atStart=>exact⟨0,by omega,rfl,aG _ _,Ca.zero _ _⟩
 case round =>
  obtain⟨j,F,rfl,k,d⟩:=hrel;have f:Below w.heap.size w wr:=((aG w.heap.size w).alloc (aF _) _).trans (k.mono (by omega));have o:wr.heap[w.heap.size]?=aE (aH #[.string ⟨#[]⟩,aA aC 0 0,.bool false,aA aC 0 0] 54 (0,0)):=by
   rw[k.block _ (by omega)];exact Al _ _
  by_cases G:j<n
  ·rcases s with s | ⟨g,rfl⟩
   ·omega
   obtain⟨D,r,T,rfl,t⟩:=AS L j (by omega);have c0:=(b.V f).cell 0 (by decide);have A:=(b.V f).cell 1 (by decide);have c2:=(b.V f).cell 2 (by decide);have c3:=(b.V f).cell 3 (by decide);have o1:=b.args;have o2:=b.defs;obtain⟨rk,va,ns,many,H,ds⟩:=r;simp only[AO.cells,t,aK,aO,bK]at c0 A c2 c3 o1 o2;generalize I:ns.length=p at o1;generalize J:ds.length=q at o2;obtain⟨bo,ca,rfl,_⟩:=Ak o1;obtain⟨l,cb,rfl,_⟩:=Ak o2;subst t;cases u:(rk.toList==key.toList)
   ·have m:=d.succ u;clear d h b o1 o2;go_wp2;go_roundw;case rel=>exact⟨D.length+1,by omega,by go_num,k.alloc (by have:=k.size;simp at this;omega) _,m⟩
    case measure=>simp[intOf];omega
   ·have m:=Aa (d.hit u);have x:w.heap.size<wr.heap.size:=by have:=k.size;simp at this;omega
    have y:(wr.alloc (aH #[.string rk,aA bo p ca,.bool many,aA l q cb] 54)).heap[w.heap.size]?=aE (aH #[.string ⟨#[]⟩,aA aC 0 0,.bool false,aA aC 0 0] 54 (0,0)):=by rw[Cj _ _ _ x];exact o
    have a:=Aeb (f.alloc (Nat.le_of_lt x) (aH #[.string rk,aA bo p ca,.bool many,aA l q cb] 54)) y #[.string rk,aA bo p ca,.bool many,aA l q cb];clear d h b o1 o2;go_wp2_with (with_reducible show wpList _ _ _ (Oper.mk _ (Op.store _ (bY 4) _) _ _ _ _::_) _ _;refine wpList_store_row rfl 54 _ _ rfl w.heap.size #[.string rk,aA bo p ca,.bool many,aA l q cb] ?_ ?_ 54 _ y ?_ ?_ ?_ ?_)
    all_goals (first | rfl | kernel_rfl | skip)
    have z0:=a.cell 0;have c:=a.cell 1;have z2:=a.cell 2;have z3:=a.cell 3;generalize cC _ _ _=W at a z0 c z2 z3⊢;simp only[bL,aK,aO]at z0 c z2 z3;exact bodyPost_ret (v:=cI #[cB #[.string rk,aA bo p ca,.bool many,aA l q cb],.bool true]) (by simp[results,results93,go_sem,z0,c,z2,z3]) rfl ⟨a.V,.inr ⟨_,List.mem_append_right _ (List.mem_cons_self ..),m.out,rfl⟩⟩
  ·obtain rfl:j=n:=by omega
   have m:=Aa (Ca.none (z▸d));clear d h b;have a:=Aeb f o #[.string ⟨#[]⟩,aA aC 0 0,.bool false,aA aC 0 0];go_wp2_with (with_reducible show wpList _ _ _ (Oper.mk _ (Op.store _ (bY 4) _) _ _ _ _::_) _ _;refine wpList_store_row rfl 54 _ _ rfl w.heap.size #[.string ⟨#[]⟩,aA aC 0 0,.bool false,aA aC 0 0] ?_ ?_ 54 _ o ?_ ?_ ?_ ?_)
   all_goals (first | rfl | kernel_rfl | skip)
   have z0:=a.cell 0;have c:=a.cell 1;have z2:=a.cell 2;have z3:=a.cell 3;generalize cC _ _ _=W at a z0 c z2 z3⊢;simp only[bL,aK,aO]at z0 c z2 z3;exact bodyPost_ret (v:=cI #[cB #[.string ⟨#[]⟩,aA aC 0 0,.bool false,aA aC 0 0],.bool false]) (by simp[results,results93,go_sem,z0,c,z2,z3]) rfl ⟨a.V,.inl ⟨m.out,rfl⟩⟩
variable {p:Nat}{w':World}
theorem Adk(a b:Nat)(d:a<4611686018427387904)(e:b<4611686018427387904):bits .xor .i64 (a:Int) (b:Int)=((a ^^^ b:Nat):Int):=by
 have f:a ^^^ b<2 ^ 62:=Nat.xor_lt_two_pow (by omega) (by omega);have h1:(aW 64 (a:Int)).toNat=a:=by
  rw[bJ,bN];exact bU (by omega)
 have c:(aW 64 (b:Int)).toNat=b:=by
  rw[bJ,bN];exact bU (by omega)
 show IntKind.i64.wrap ((aW 64 (a:Int) ^^^ aW 64 (b:Int)).toNat:Int)=_
 rw[BitVec.toNat_xor,h1,c,IntKind.wrap_i64];omega
def Rd(B:Nat)(w:World)(p k:Nat):Prop :=
 B<=p/\∃(a:Option Addr) (c e:Nat),w.heap[p]?=aE (aH #[aA a c e,.int .i64 (k:Int)] 152 (0,0))/\c<=2000 /\
  (c=0\/∃b off,a=aE ⟨b,off,aC⟩/\b<B/\∀i,i<c->∃d:Nat,d<256/\w.cell? ⟨b,off+i,aC⟩=aE (.int .u8 (d:Int)))
theorem Rd.lt(h:Rd B w p k):p<w.heap.size:=by
 obtain⟨_,_,_,_,a,_⟩:=h;exact(bB.1 a).1
theorem Rd.kept(h:Rd B w p k)(c:w.grownBy w' aC):Rd B w' p k:=by
 have d:=h.lt;obtain⟨e,a,f,g,j,l,m⟩:=h;refine⟨e,a,f,g,by rw[c.block p d (by simp)];exact j,l,?_⟩;rcases m with n | ⟨b,off,o,q,r⟩
 ·exact bM n
 ·refine bG ⟨b,off,o,q,fun i s=>?_⟩;obtain⟨t,u,v⟩:=r i s;exact⟨t,u,c.cell v (by simp)⟩
theorem Rd.V(h:Rd B w p k)(a:Below w.heap.size w w'):Rd B w' p k:=h.kept (A2 a aC)
theorem Rd.step(h:Rd B w p k):Rd B (w.setCell ⟨p,1,aC⟩ (.int .i64 ((k:Int)+1))) p (k+1)/\w.grownBy (w.setCell ⟨p,1,aC⟩ (.int .i64 ((k:Int)+1))) (aE p):=by
 obtain⟨f,a,g,j,l,m,n⟩:=h;have d:w.grownBy (w.setCell ⟨p,1,aC⟩ (.int .i64 ((k:Int)+1))) (aE p):=⟨rfl,rfl,rfl,by simp,fun i _ c=>heap_setCell_other w ⟨p,1,aC⟩ i _ (fun e=>c (by simp[e]))⟩;refine⟨⟨f,a,g,j,by rw[heap_setCell_same w p 1 _ _ _ l];rfl,m,?_⟩,d⟩;rcases n with o | ⟨b,off,q,r,s⟩
 ·exact bM o
 ·refine bG ⟨b,off,q,r,fun i c=>?_⟩;obtain⟨t,u,v⟩:=s i c;exact⟨t,u,d.cell v (by simp;omega)⟩
def Aey(n B p k:Nat)(w:World)(e:Ending)(w':World):Prop :=
 ∃x:Nat,x<n/\e=aJ (.int .i64 (x:Int))/\Rd B w' p (k+1)/\w.grownBy w' (aE p)
theorem TM(h:Rd B w p k)(q:Nat):Rd B (w.drewN q) p k:=h
theorem TN{row:Option Nat}(h:w.grownBy w' row)(q:Nat):w.grownBy (w'.drewN q) row:=⟨h.os,h.tape,h.output,h.size,h.block⟩
theorem LR(n:Nat)(h:n<4611686018427387904):wrap64 (n:Int)=(n:Int):=by unfold wrap64;omega
theorem Aau(b z2 k a n:Nat)(h1:b<256)(f:z2<256)(g:k<=1000000)(_hl:1<=a)(h:1<=n):
  ∃x:Nat,x<n/\(bits .xor .i64 (wrap64 ((b:Int)*131+(z2:Int)*1117+(k:Int)*29+wrap64 (wrap64 ((k:Int)/(a:Int))*53))) (wrap64 ((wrap64 ((b:Int)*131+(z2:Int)*1117+(k:Int)*29+wrap64 (wrap64 ((k:Int)/(a:Int))*53))).tdiv 64))).tmod (n:Int)=(x:Int):=by
 have i:k/a<=k:=bZ _ _;have d:(k:Int)/(a:Int)=((k/a:Nat):Int):=(Int.natCast_ediv _ _).symm;rw[d,LR _ (by omega),show ((k/a:Nat):Int)*53=((k/a*53:Nat):Int) from by omega,LR _ (by omega)];rw[show (b:Int)*131+(z2:Int)*1117+(k:Int)*29+((k/a*53:Nat):Int)=((b*131+z2*1117+k*29+k/a*53:Nat):Int) from by omega];have c:b*131+z2*1117+k*29+k/a*53<4611686018427387904:=by omega
 generalize b*131+z2*1117+k*29+k/a*53=N at *;rw[LR N c];have e:(N:Int).tdiv 64=((N/64:Nat):Int):=by rw[Int.tdiv_eq_ediv_of_nonneg (by omega)];omega
 rw[e,LR _ (by omega),Adk N (N/64) c (by omega)];refine⟨(N ^^^ N/64)%n,bF _ (by omega),?_⟩;rw[Int.tmod_eq_emod_of_nonneg (by omega)];exact(aZ _ _).symm
theorem Bc(B p k n:Nat)(w:World)(h:Rd B w p k)(C:1<=n)(D:n<=1000)(m:k<=1000000):
  Calls prog 44 #[aQ (aE ⟨p,0,aC⟩),.int .i64 (n:Int)] w fun e w'=>Aey n B p k w e w':=by
 have d:=h.step;obtain⟨E,a,c,o,f,F,j⟩:=h;have c0:w.cell? ⟨p,0,aC⟩=aE (aA a c o):=by rw[aD f];rfl
 have G:w.cell? ⟨p,1,aC⟩=aE (.int .i64 (k:Int)):=by rw[aD f];rfl
 have H:w.frozen? ⟨p,1,aC⟩=false:=aN f 1;have I:¬(n:Int)<1:=by omega
 by_cases q:c=0
 ·have r:((c:Int)==0)=true:=by rw[beq_iff_eq];omega
  clear j;go_enter func44,ntmps44;go_wp2;go_ret;exact⟨0,by omega,rfl,d.1,d.2⟩
 ·have r:((c:Int)==0)=false:=by rw[beq_eq_false_iff_ne];omega
  rcases j with h1 | ⟨b,off,rfl,J,g⟩
  ·exact absurd h1 q
  ·have K:¬b=p:=by omega
   have L:¬p=b:=by omega
   by_cases s:k<c
   ·obtain⟨l,M,N⟩:=g k s;have i:=bF l (show 0<n by omega);have O:((n:Int)==0)=false:=by rw[beq_eq_false_iff_ne];omega
    go_enter func44,ntmps44;go_wp2;go_ret;exact⟨l%n,i,by simp,d.1,d.2⟩
   ·have t:k%c<c:=bF _ (by omega);have u:(k*7+3)%c<c:=bF _ (by omega);obtain⟨v,y,P⟩:=g _ t;obtain⟨z2,z,Q⟩:=g _ u;have R:k/c<=k:=bZ _ _;have S:(0:Int)<=(k:Int)%(c:Int):=cA _ (by omega);have T:(k:Int)%(c:Int)<(c:Int):=bS _ (by omega);have U:(0:Int)<=((k:Int)*7+3)%(c:Int):=cA _ (by omega);have V:((k:Int)*7+3)%(c:Int)<(c:Int):=bS _ (by omega);have W:((k:Int)%(c:Int)).toNat=k%c:=by rw[<-aZ];exact bT _
    have t2:(((k:Int)*7+3)%(c:Int)).toNat=(k*7+3)%c:=by rw[show ((k:Int)*7+3)=((k*7+3:Nat):Int) from by omega,<-aZ];exact bT _
    go_enter func44,ntmps44;go_wp2;go_quiet (fail)
    go_wp2;go_ret;obtain⟨x,i,A⟩:=Aau v z2 k c n y z m (by omega) (by omega);exact⟨x,i,Cz A,TM d.1 _,TN d.2 _⟩
theorem P2(u:ByteArray)(m q:Nat)(a:2*q<=m)(b:u.size*m<=1000000):q=0\/(u++u).size<=1000000:=by
 by_cases h:q=0
 ·exact bM h
 ·right;rw[aM];have:u.size*2<=u.size*m:=bE (aF _) (by omega);omega
theorem Jb(s:ByteArray)(n:Nat)(w:World)(c:s.size<=1000)(b:n<=1000):Calls prog 80 #[.string s,.int .i64 (n:Int)] w fun e w'=>∃t:ByteArray,t.size=s.size*n/\e=aJ (.string t)/\w'=w:=by
 go_enter func80,ntmps80;go_wp2;go_loop [0,1,5] (fun x i o=>∃(u t:ByteArray) (m:Nat),x=.string u/\i=.int .i64 (m:Int)/\o=.string t/\m<=1000/\t.size+u.size*m=s.size*n/\u.size<=2000000/\(m=0\/u.size<=1000000)) (fun _ i _=>(intOf i).toNat)
 case atStart=>exact⟨s,⟨#[]⟩,n,rfl,rfl,rfl,b,by show 0+_=_;omega,by omega,bG (by omega)⟩
 case round =>
  obtain⟨u,t,m,rfl,rfl,rfl,h,a,j,k⟩:=hrel;by_cases f:m=0
  ·subst f;go_wp2;go_ret;exact⟨t,by omega,rfl,rfl⟩
  ·have h1:(0:Int)<(m:Int):=by omega
   have d:u.size*m<=1000000:=by
    have:s.size*n<=1000*1000:=bE c b;omega
   have l:u.size<=u.size*m:=Nat.le_mul_of_pos_right _ (by omega);have p:t.size<=1000000:=by
    have:s.size*n<=1000*1000:=bE c b;omega
   by_cases r:m%2=1
   ·have g:((m:Int)%2==1)=true:=by rw[beq_iff_eq];omega
    have key:(t++u).size+(u++u).size*(m/2)=s.size*n:=by
     have e:m=2*(m/2)+1:=by omega
     rw[aM,aM];rw[e]at a;generalize m/2=q at *;rw[Nat.mul_add,Nat.mul_one,<-cF]at a;rw[bA];have:u.size*2*q=u.size*q+u.size*q:=by rw[cH,bA]
     omega
    go_wp2;go_round
    case rel=>exact⟨u++u,t++u,m/2,rfl,by go_num,rfl,by omega,key,by rw[aM];omega,P2 u m (m/2) (by omega) d⟩
    case measure=>simp[intOf];omega
   ·have g:((m:Int)%2==1)=false:=by rw[beq_eq_false_iff_ne];omega
    have key:t.size+(u++u).size*(m/2)=s.size*n:=by
     have e:m=2*(m/2):=by omega
     rw[aM];rw[e]at a;generalize m/2=q at *;rw[<-cF]at a;rw[bA];have:u.size*2*q=u.size*q+u.size*q:=by rw[cH,bA]
     omega
    go_wp2;go_round
    case rel=>exact⟨u++u,t,m/2,rfl,by go_num,rfl,by omega,key,by rw[aM];omega,P2 u m (m/2) (by omega) d⟩
    case measure=>simp[intOf];omega
def JR(M B p:Nat)(w:World)(e:Ending)(w':World)(k d:Nat):Prop :=
 ∃(t:ByteArray) (k':Nat),t.size<=M/\k'<=k+d/\e=aJ (.string t)/\Rd B w' p k'/\w.grownBy w' (aE p)
theorem Ct(h:w.grownBy w' aC)(row:Option Nat):w.grownBy w' row:=⟨h.os,h.tape,h.output,h.size,fun i a _=>h.block i a (by simp)⟩
theorem FB(w1 w2:World)(l:List ByteArray)(M y p:Nat)(a:∀u∈l,u.size<=M)(b:y<l.length)(c:(w1.alloc (aH (l.map cD).toArray 9)).grownBy w2 (aE p))(d:p<w1.heap.size):
  ∃u:ByteArray,u.size<=M/\w2.cell? ⟨w1.heap.size,y,aC⟩=aE (.string u):=by
 refine⟨l[y],a _ (aI _),c.cell ?_ (by simp;omega)⟩;rw[aD (heap_alloc_new w1 _)];simp[b]
theorem V9(B p k:Nat)(w:World)(h:Rd B w p k)(m:k<=900000):
  Calls prog 243 #[aQ (aE ⟨p,0,aC⟩)] w fun e w'=>JR 200 B p w e w' k 2:=by
 go_enter func243,ntmps243;go_wp2_with (go_at_call 44;refine(Bc B p k 2 w h (by omega) (by omega) (by omega)).mono ?_)
 rintro e w1 ⟨x,n,rfl,h1,f⟩;have b:=Jb ⟨#[116]⟩ (200-x) w1 (by decide) (by omega);have c:((200-x:Nat):Int)=200-(x:Int):=by omega
 rw[c]at b;clear c;go_wp2_with (go_at_call 80;refine b.mono ?_)
 rintro e w1 ⟨t,g,rfl,rfl⟩;clear b;go_wp2_with (go_at_call 44;refine(Bc B p (k+1) 8 _ (h1.V ((aG _ _).alloc (aF _) _)) (by omega) (by omega) (by omega)).mono ?_)
 rintro e w2 ⟨y,i,rfl,j,d⟩;have l:t.size<=200:=by rw[g];show 1*(200-x)<=200;omega
 obtain⟨u,a,o⟩:=FB w1 w2 [⟨#[122,111,110,101,61,101,97,115,116]⟩,⟨#[115,115,100,32,124,32,33,111,108,100]⟩,⟨#[]⟩,⟨#[113,34,117,92,111,10,255]⟩,⟨#[97,35,98]⟩,⟨#[120]⟩,⟨#[116,119,111,32,119,111,114,100,115]⟩,t] 200 y p (by intro u a;simp only[aT,aR,or_false]at a;rcases a with rfl | rfl | rfl | rfl | rfl | rfl | rfl | rfl;all_goals first | exact l | decide) i d h1.lt
 go_wp2;go_ret;exact⟨u,k+1+1,a,by omega,rfl,j,Ar f (Ar (Ct (aL _ _ _) _) d)⟩
theorem VA(B:Nat)(a:Option Addr)(c cap:Nat)(w:World)(l:B<=w.heap.size)(r:c<=1048576)(s:c<=cap)(t:cap<=9223372036854775807)
  (m:c=0\/∃b off,a=aE ⟨b,off,aC⟩/\b<B/\∀i,i<c->∃d:Nat,d<256/\w.cell? ⟨b,off+i,aC⟩=aE (.int .u8 (d:Int))) :
  Calls prog 42 #[aA a c cap] w fun e w'=>e=aJ (aQ (aE ⟨w.heap.size,0,aC⟩))/\Rd B w' w.heap.size 0/\Below w.heap.size w w':=by
 by_cases h:c<=2000
 ·have p:¬(2000:Int)<(c:Int):=by omega
  go_enter func42,ntmps42;go_wp2;go_ret;refine⟨rfl,⟨l,a,c,cap,heap_alloc_new w _,h,?_⟩,(aG _ _).alloc (aF _) _⟩;rcases m with n | ⟨b,off,q,f,g⟩
  ·exact bM n
  ·exact bG ⟨b,off,q,f,fun i o=>by obtain⟨d,j,k⟩:=g i o;exact⟨d,j,by rw[((aG w.heap.size w).alloc (aF _) _).cell (by simp;omega)];exact k⟩⟩
 ·have p:(2000:Int)<(c:Int):=by omega
  rcases m with n | ⟨b,off,rfl,f,g⟩
  ·omega
  ·go_enter func42,ntmps42;go_wp2;go_ret;refine⟨rfl,⟨l,_,2000,cap,heap_alloc_new w _,by omega,bG ⟨b,off,rfl,f,fun i o=>?_⟩⟩,(aG _ _).alloc (aF _) _⟩;obtain⟨d,j,k⟩:=g i (by omega);exact⟨d,j,by rw[((aG w.heap.size w).alloc (aF _) _).cell (by simp;omega)];exact k⟩
theorem Aez{row:Option Nat}(h:w.drew.grownBy w' row):w.grownBy w' row:=⟨h.os,h.tape,h.output,h.size,h.block⟩
variable {B':Nat}
def Code(B:Nat)(w:World)(a:Option Addr)(c cap:Nat):Prop :=
 c<=1048576/\c<=cap/\cap<=9223372036854775807/\(c=0\/∃b off,a=aE ⟨b,off,aC⟩/\b<B/\∀i,i<c->∃d:Nat,d<256/\w.cell? ⟨b,off+i,aC⟩=aE (.int .u8 (d:Int)))
theorem Code.V{a:Option Addr}{c cap:Nat}(h:Code B w a c cap)(d:Below B w w')(n:B<=B'):Code B' w' a c cap:=by
 refine⟨h.1,h.2.1,h.2.2.1,?_⟩;rcases h.2.2.2 with e | ⟨b,off,f,o,g⟩
 ·exact bM e
 ·exact bG ⟨b,off,f,by omega,fun i j=>by obtain⟨k,l,m⟩:=g i j;exact⟨k,l,by rw[d.cell (by simp;omega)];exact m⟩⟩
theorem Aav(B p k:Nat)(w:World)(h:Rd B w p k)(d:k<=900000):
  Calls prog 219 #[aQ (aE ⟨p,0,aC⟩),.int .i64 1] w fun e w'=>JR 200 B p w e w' k 2:=by
 go_enter func219,ntmps219;go_wp2_with (go_at_call 44;refine(Bc B p k 6 _ (h.V ((aG _ _).alloc (aF _) _)) (by omega) (by omega) (by omega)).mono ?_)
 rintro e w2 ⟨y,b,rfl,c,a⟩;obtain⟨u,f,g⟩:=FB w w2 [⟨#[48]⟩,⟨#[49]⟩,⟨#[50]⟩,⟨#[55]⟩,⟨#[49,48,48]⟩,⟨#[49,48,48,48,48,48,48]⟩] 10 y p (by decide) b a h.lt;go_wp2;go_ret;exact⟨u,k+1,by omega,by omega,rfl,c,Ar (Ct (aL _ _ _) _) a⟩
theorem Aaw(B p k:Nat)(w:World)(h:Rd B w p k)(d:k<=900000):
  Calls prog 219 #[aQ (aE ⟨p,0,aC⟩),.int .i64 2] w fun e w'=>JR 200 B p w e w' k 2:=by
 go_enter func219,ntmps219;go_wp2_with (go_at_call 44;refine(Bc B p k 5 _ (h.V ((aG _ _).alloc (aF _) _)) (by omega) (by omega) (by omega)).mono ?_)
 rintro e w2 ⟨y,b,rfl,c,a⟩;obtain⟨u,f,g⟩:=FB w w2 [⟨#[48]⟩,⟨#[45,49]⟩,⟨#[53]⟩,⟨#[45,57]⟩,⟨#[45,49,48,48,48,48,48,48]⟩] 10 y p (by decide) b a h.lt;go_wp2;go_ret;exact⟨u,k+1,by omega,by omega,rfl,c,Ar (Ct (aL _ _ _) _) a⟩
theorem Aax(B p k:Nat)(w:World)(h:Rd B w p k)(d:k<=900000):
  Calls prog 219 #[aQ (aE ⟨p,0,aC⟩),.int .i64 3] w fun e w'=>JR 200 B p w e w' k 2:=by
 go_enter func219,ntmps219;go_wp2_with (go_at_call 44;refine(Bc B p k 4 _ (h.V ((aG _ _).alloc (aF _) _)) (by omega) (by omega) (by omega)).mono ?_)
 rintro e w2 ⟨y,b,rfl,c,a⟩;obtain⟨u,f,g⟩:=FB w w2 [⟨#[99,111,114,101]⟩,⟨#[122]⟩,⟨#[101,97,115,116]⟩,⟨#[97,45,49]⟩] 10 y p (by decide) b a h.lt;go_wp2;go_ret;exact⟨u,k+1,by omega,by omega,rfl,c,Ar (Ct (aL _ _ _) _) a⟩
theorem Aay(B p k:Nat)(w:World)(h:Rd B w p k)(d:k<=900000):
  Calls prog 219 #[aQ (aE ⟨p,0,aC⟩),.int .i64 5] w fun e w'=>JR 200 B p w e w' k 2:=by
 go_enter func219,ntmps219;go_wp2_with (go_at_call 44;refine(Bc B p k 2 _ (h.V ((aG _ _).alloc (aF _) _)) (by omega) (by omega) (by omega)).mono ?_)
 rintro e w2 ⟨y,b,rfl,c,a⟩;obtain⟨u,f,g⟩:=FB w w2 [⟨#[121,101,115]⟩,⟨#[110,111]⟩] 10 y p (by decide) b a h.lt;go_wp2;go_ret;exact⟨u,k+1,by omega,by omega,rfl,c,Ar (Ct (aL _ _ _) _) a⟩
theorem Aaz(B p k:Nat)(w:World)(h:Rd B w p k)(d:k<=900000):
  Calls prog 219 #[aQ (aE ⟨p,0,aC⟩),.int .i64 6] w fun e w'=>JR 200 B p w e w' k 2:=by
 go_enter func219,ntmps219;go_wp2_with (go_at_call 44;refine(Bc B p k 3 _ (h.V ((aG _ _).alloc (aF _) _)) (by omega) (by omega) (by omega)).mono ?_)
 rintro e w2 ⟨y,b,rfl,c,a⟩;obtain⟨u,f,g⟩:=FB w w2 [⟨#[110,111,110,101]⟩,⟨#[98,101,114,116,104]⟩,⟨#[122,111,110,101]⟩] 10 y p (by decide) b a h.lt;go_wp2;go_ret;exact⟨u,k+1,by omega,by omega,rfl,c,Ar (Ct (aL _ _ _) _) a⟩
theorem Aa0(B p k:Nat)(w:World)(h:Rd B w p k)(a:k<=900000):
  Calls prog 219 #[aQ (aE ⟨p,0,aC⟩),.int .i64 4] w fun e w'=>JR 200 B p w e w' k 2:=by
 go_enter func219,ntmps219;go_wp2_with (go_at_call 243;refine(V9 B p k w h a).mono ?_)
 rintro e w2 ⟨u,b,c,d,rfl,f,g⟩;go_wp2;go_ret;exact⟨u,b,c,d,rfl,f,g⟩
theorem VC(B p k:Nat)(t:Int)(h1:1<=t)(b:t<=6)(w:World)(h:Rd B w p k)(a:k<=900000):
  Calls prog 219 #[aQ (aE ⟨p,0,aC⟩),.int .i64 t] w fun e w'=>JR 200 B p w e w' k 2:=by
 rcases six h1 b with rfl | rfl | rfl | rfl | rfl | rfl
 ·exact Aav B p k w h a
 ·exact Aaw B p k w h a
 ·exact Aax B p k w h a
 ·exact Aa0 B p k w h a
 ·exact Aay B p k w h a
 ·exact Aaz B p k w h a
theorem P4(B p k:Nat)(w:World)(h:Rd B w p k)(l:k<=900000):
  Calls prog 164 #[aQ (aE ⟨p,0,aC⟩)] w fun e w'=>JR 201 B p w e w' k 2:=by
 go_enter func164,ntmps164;go_wp2_with (go_at_call 44;refine(Bc B p k 2 w h (by omega) (by omega) (by omega)).mono ?_)
 rintro e w1 ⟨x,m,rfl,h1,g⟩;have a:=Jb ⟨#[110]⟩ (20+x) w1 (by decide) (by omega);rw[show ((20+x:Nat):Int)=20+(x:Int) from by omega]at a;go_wp2_with (go_at_call 80;refine a.mono ?_)
 rintro e w1 ⟨t,c,rfl,rfl⟩;clear a;have a:=Jb ⟨#[116]⟩ 201 w1 (by decide) (by omega);go_wp2_with (go_at_call 80;refine a.mono ?_)
 rintro e w1 ⟨v,d,rfl,rfl⟩;clear a;have n:t.size<=201:=by rw[c];show 1*(20+x)<=201;omega
 have o:v.size<=201:=by rw[d];show 1*201<=201;omega
 clear c d;go_wp2_with (go_at_call 44;refine(Bc B p (k+1) 12 _ (h1.V ((aG _ _).alloc (aF _) _)) (by omega) (by omega) (by omega)).mono ?_)
 rintro e w2 ⟨y,i,rfl,j,f⟩;obtain⟨u,b,q⟩:=FB w1 w2 [⟨#[]⟩,⟨#[48,49]⟩,⟨#[45,48]⟩,⟨#[49,48,48,48,48,48,49]⟩,⟨#[49,50,51,52,53,54,55,56]⟩,⟨#[120,32,121]⟩,⟨#[67,111,114,101]⟩,⟨#[109,97,121,98,101]⟩,t,⟨#[45]⟩,⟨#[43,49]⟩,v] 201 y p (by intro u b;simp only[aT,aR,or_false]at b;rcases b with rfl | rfl | rfl | rfl | rfl | rfl | rfl | rfl | rfl | rfl | rfl | rfl;all_goals first | assumption | decide) i f h1.lt
 go_wp2;go_ret;exact⟨u,k+1+1,b,by omega,rfl,j,Ar g (Ar (Ct (aL _ _ _) _) f)⟩
theorem Xd(w1 w2:World)(l:List ByteArray)(y p:Nat)(a:y<l.length)(b:(w1.alloc (aH (l.map cD).toArray 9)).grownBy w2 (aE p))(c:p≠w1.heap.size):
  ∃u∈l,w2.cell? ⟨w1.heap.size,y,aC⟩=aE (.string u):=by
 refine⟨l[y],aI _,b.cell ?_ (by simp;omega)⟩;rw[aD (heap_alloc_new w1 _)];simp[a]
variable {i base q xc:Nat}{e:TypeId}{xs:List Value}{W3:World}{rk:ByteArray}{vn:Value}{xo:Option Addr}
structure AN(S:List Nat)(w w':World):Prop where
 os:w'.os=w.os
 tape:w'.tape=w.tape
 output:w'.output=w.output
 size:w.heap.size<=w'.heap.size
 block:∀i,i<w.heap.size->i ∉ S->w'.heap[i]?=w.heap[i]?
theorem AN.trans{S:List Nat}{a b c:World}(h:AN S a b)(k:AN S b c):AN S a c :=
 ⟨k.os.trans h.os,k.tape.trans h.tape,k.output.trans h.output,aU h.size k.size,fun i d e=>(k.block i (bR d h.size) e).trans (h.block i d e)⟩
theorem AN.ai{S:List Nat}{row:Option Nat}(h:w.grownBy w' row)(a:∀g,row=aE g->g∈S):AN S w w' :=
 ⟨h.os,h.tape,h.output,h.size,fun i b c=>h.block i b (fun e=>c (a i e.symm))⟩
theorem AN.of_below{S:List Nat}(h:Below w.heap.size w w'):AN S w w':=⟨h.os,h.tape,h.output,h.size,fun i a _=>h.block i a⟩
theorem AN.less{S T:List Nat}{a:World}(h:AN T a w)(k:AN S w w')(d:∀i∈S,i∈T\/a.heap.size<=i):AN T a w' :=
 ⟨k.os.trans h.os,k.tape.trans h.tape,k.output.trans h.output,aU h.size k.size,fun i b c=>(k.block i (bR b h.size) (fun e=>by rcases d i e with h1 | h1;exact c h1;omega)).trans (h.block i b c)⟩
theorem AN.heap{S:List Nat}(h:AN S w w'){o:Obj}(a:w.heap[i]?=aE o)(b:i ∉ S):w'.heap[i]?=aE o:=by
 rw[h.block i (bB.1 a).1 b];exact a
theorem AN.own{S:List Nat}{size:Nat}(h:w.ownsRow base e size v n xs)(k:AN S w w')(c:∀g,v.ownBlock=aE g->g ∉ S):w'.ownsRow base e size v n xs:=by
 obtain⟨h1,a⟩:=h;refine⟨h1,?_⟩;rcases a with a | ⟨g,d,f,b,i,j,l⟩
 ·exact .inl a
 ·exact .inr ⟨g,d,f,b,i,k.heap j (c g (by rw[b];rfl)),l⟩
theorem AN.rd{S:List Nat}(h:Rd B w p k)(c:AN S w w')(d:∀i∈S,p<i):Rd B w' p k:=by
 obtain⟨g,a,j,l,m,n,o⟩:=h;refine⟨g,a,j,l,c.heap m (fun e=>Nat.lt_irrefl _ (d _ e)),n,?_⟩;rcases o with q | ⟨b,off,r,s,t⟩
 ·exact bM q
 ·refine bG ⟨b,off,r,s,fun i u=>?_⟩;obtain⟨v,x,f⟩:=t i u;refine⟨v,x,?_⟩;have y:=aP w _ f;rw[World.cell?_of_block (c.block b y (fun e=>by have:=d _ e;omega))];exact f
theorem AN.grown(h:AN [p] w w'):w.grownBy w' (aE p):=⟨h.os,h.tape,h.output,h.size,fun i a b=>h.block i a (fun e=>b (by rw[aB.1 e]))⟩
theorem AN.set(w:World)(q j:Nat)(u:Value):AN [q] w (w.setCell ⟨q,j,aC⟩ u) :=
 ⟨rfl,rfl,rfl,by simp,fun i _ a=>heap_setCell_other w ⟨q,j,aC⟩ i _ (fun e=>a (by simp[e]))⟩
theorem AX.kept{S:List Nat}(h:AX B w v L)(k:AN S w w')(b:∀i∈S,i<B):AX B w' v L :=
 ⟨fun s a=>AN.own (h.1 s a) k (fun q c e=>by have h1:=(bD (h.1 s a) q c).1;have d:=b q e;omega),h.2⟩
def Adl(R:List Plain):Prop:=∀p∈R,p.2.2.1=false->1<=p.2.2.2.length/\p.2.2.2.length<=3/\∀d∈p.2.2.2,d.length<=200
theorem TO(kind:ByteArray):Adl (rulesOf kind):=by
 unfold rulesOf;split
 ·unfold Adl;decide
 ·split
  ·unfold Adl;decide
  ·split
   ·unfold Adl;decide
   ·intro p a;simp at a
def TP(R:List Plain)(B p k:Nat)(w:World)(e:Ending)(w':World):Prop :=
 ∃(key:ByteArray) (bo:Option Addr) (cb k':Nat) (ws:List (List UInt8)),(∃q∈R,q.1=key)/\e=aJ (cB #[.string key,aA bo ws.length cb])/\w'.ownsRow w.heap.size 9 1 (aA bo ws.length cb) ws.length (strs ws)/\ws.length<=3/\(∀x∈ws,x.length<=200)/\k'<=k+10/\Rd B w' p k'/\w.grownBy w' (aE p)
structure Ef(B p k:Nat)(w:World)(q:Nat)(rk:ByteArray)(vn:Value)(ns:List Int)(xo:Option Addr)(xc:Nat)(ws:List (List UInt8))(W:World):Prop where
 rd:Rd B W p k
 b4:W.heap[w.heap.size]?=aE (aH #[.string ⟨#[]⟩,aA aC 0 0] 115 (0,0))
 b6:∃c0 c2 c3,W.heap[q]?=aE (aH #[c0,vn,c2,c3] 54 (0,0))
 b7:W.heap[q+1]?=aE (aH #[.string rk,aA xo ws.length xc] 115 (0,0))
 own:W.ownsRow (q+2) 9 1 (aA xo ws.length xc) ws.length (strs ws)
 args:W.ownsRow (w.heap.size+1) 3 1 vn ns.length (C3 ns)
 argsLt:∀g,vn.ownBlock=aE g->w.heap.size<g/\g<q
 kept:AN [p] w W
 big:q+2<=W.heap.size
 plt:p<w.heap.size
 qge:w.heap.size<q
theorem Ef.next{n g3 d:Nat}{a:World}{u:ByteArray}(h:Ef B p k w q rk vn ns xo xc ws W)
  (s:W.grownBy W3 (aE p)) (t:Rd B W3 p n) (v:(W3.alloc (aH #[.string u] 9)).grownBy a (aS xo ws.length xc).ownBlock) (o4:a.ownsRow (q+2) 9 1 (aA (aE ⟨g3,0,aC⟩) (ws.length+1) d) (ws.length+1) (strs ws++[.string u])) :
  Ef B p n w q rk vn ns (aE ⟨g3,0,aC⟩) d (ws++[u.data.toList]) (a.setCell ⟨q+1,1,aC⟩ (aA (aE ⟨g3,0,aC⟩) (ws.length+1) d)):=by
 have x:=h.own.lt;have f:AN (aS xo ws.length xc).ownBlock.toList W3 a:=(AN.of_below ((aG _ _).alloc (aF _) _)).trans (AN.ai v (fun g b=>by rw[b];simp));have j:AN [q+1] a (a.setCell ⟨q+1,1,aC⟩ (aA (aE ⟨g3,0,aC⟩) (ws.length+1) d)):=AN.set _ _ _ _;have l:∀i∈(aS xo ws.length xc).ownBlock.toList,q+2<=i:=fun i c=>(x i (by simpa using c)).1
 have r:=h.plt;have y:=h.qge;have m:AN [p] W W3:=AN.ai s (fun g b=>by cases b;simp);have K:∀ {i:Nat} {o:Obj},W.heap[i]?=aE o->p<i->i<q+1->(a.setCell ⟨q+1,1,aC⟩ (aA (aE ⟨g3,0,aC⟩) (ws.length+1) d)).heap[i]?=aE o:=fun z h1 A =>
  j.heap (f.heap (m.heap z (fun e=>by have:=aB.1 e;omega)) (fun e=>by have:=l _ e;omega)) (fun e=>by have:=aB.1 e;omega)
 have C:a.heap[q+1]?=aE (aH #[.string rk,aA xo ws.length xc] 115 (0,0)):=f.heap (m.heap h.b7 (fun e=>by have:=aB.1 e;omega)) (fun e=>by have:=l _ e;omega);refine⟨?_,K h.b4 r (by omega),(by obtain⟨c0,c2,c3,D⟩:=h.b6;exact⟨c0,c2,c3,K D (by omega) (by omega)⟩),?_,?_,?_,h.argsLt,?_,?_,r,y⟩
 ·exact AN.rd (AN.rd t f (fun i c=>by have:=l i c;omega)) j (fun i c=>by have:=aB.1 c;omega)
 ·have:=heap_setCell_same a (q+1) 1 _ _ (aA (aE ⟨g3,0,aC⟩) (ws.length+1) d) C;simpa using this
 ·have:=BA o4 ⟨q+1,1,aC⟩ (by simp) (aA (aE ⟨g3,0,aC⟩) (ws.length+1) d);simpa [strs] using this
 ·exact AN.own (AN.own (AN.own h.args m (fun g b e=>by have:=h.argsLt g b;have:=aB.1 e;omega)) f (fun g b e=>by have:=h.argsLt g b;have:=l _ e;omega)) j (fun g b e=>by have:=h.argsLt g b;have:=aB.1 e;omega)
 ·exact AN.less (AN.less (h.kept.trans m) f (fun i c=>.inr (by have:=l i c;omega))) j (fun i c=>.inr (by have:=aB.1 c;omega))
 ·have h1:=h.big;have A:=m.size;have E:=f.size;have F:=j.size;omega
theorem Ef.picked(h:Ef B p k w q rk vn ns xo xc ws W)
  {c:Nat} (f:W.grownBy W3 (aE p)) (j:Rd B W3 p c):Ef B p c w q rk vn ns xo xc ws W3:=by
 have d:=h.plt;have l:=h.qge;have a:AN [p] W W3:=AN.ai f (fun g b=>by cases b;simp);have K:∀ {i:Nat} {o:Obj},W.heap[i]?=aE o->p<i->W3.heap[i]?=aE o:=fun m h1=>a.heap m (fun e=>by have:=aB.1 e;omega)
 refine⟨j,K h.b4 d,(by obtain⟨c0,c2,c3,n⟩:=h.b6;exact⟨c0,c2,c3,K n (by omega)⟩),K h.b7 (by omega),AN.own h.own a (fun g b e=>by have:=(h.own.lt g b).1;have:=aB.1 e;omega),AN.own h.args a (fun g b e=>by have:=h.argsLt g b;have:=aB.1 e;omega),h.argsLt,h.kept.trans a,aU h.big a.size,d,l⟩
theorem Ef.filled{g6 cap6:Nat}{a:World}{ds:List (List UInt8)}(h:Ef B p k w q rk vn ns aC 0 [] W)
  (f:W.grownBy a aC) (o6:a.ownsRow (q+2) 9 1 (aA (aE ⟨g6,0,aC⟩) ds.length cap6) ds.length (strs ds)) :
  Ef B p k w q rk vn ns (aE ⟨g6,0,aC⟩) cap6 ds (a.setCell ⟨q+1,1,aC⟩ (aA (aE ⟨g6,0,aC⟩) ds.length cap6)):=by
 have j:=h.plt;have l:=h.qge;have m:AN [q+1] W a:=AN.ai f (fun g b=>by cases b);have n:=AN.set a (q+1) 1 (aA (aE ⟨g6,0,aC⟩) ds.length cap6);have r:AN [] W a:=AN.ai f (fun g b=>by cases b);have c:=m.trans n;have s:∀i∈[q+1],p<i:=fun i d=>by have:=aB.1 d;omega
 have K:∀ {i:Nat} {o:Obj},W.heap[i]?=aE o->i<q+1->(a.setCell ⟨q+1,1,aC⟩ (aA (aE ⟨g6,0,aC⟩) ds.length cap6)).heap[i]?=aE o:=fun t h1=>c.heap t (fun e=>by have:=aB.1 e;omega)
 refine⟨AN.rd h.rd c s,K h.b4 (by omega),(by obtain⟨c0,c2,c3,u⟩:=h.b6;exact⟨c0,c2,c3,K u (by omega)⟩),?_,BA o6 ⟨q+1,1,aC⟩ (by simp) _,AN.own h.args c (fun g b e=>by have:=h.argsLt g b;have:=aB.1 e;omega),h.argsLt,AN.less h.kept c (fun i d=>.inr (by have:=aB.1 d;omega)),aU h.big c.size,j,l⟩;have:=heap_setCell_same a (q+1) 1 _ _ (aA (aE ⟨g6,0,aC⟩) ds.length cap6) (r.heap h.b7 (by simp));simpa using this
theorem Ef.done{k0:Nat}(h:Ef B p k w q rk vn ns xo xc ws W)(e:ws.length<=3)(f:∀x∈ws,x.length<=200)(g:k<=k0+10)(x0 x1:Value)(j:∃l∈R,l.1=rk):
  TP R B p k0 w (aJ (cB #[.string rk,aA xo ws.length xc])) ((W.setCell ⟨w.heap.size,0,aC⟩ x0).setCell ⟨w.heap.size,1,aC⟩ x1):=by
 have m:=h.plt;have n:=h.qge;have b:=AN.set W w.heap.size 0 x0;have c:=AN.set (W.setCell ⟨w.heap.size,0,aC⟩ x0) w.heap.size 1 x1;have d:∀i∈[w.heap.size],p<i:=fun i a=>by have:=aB.1 a;omega
 refine⟨rk,xo,xc,k,ws,j,rfl,?_,e,f,g,AN.rd (AN.rd h.rd b d) c d,?_⟩
 ·exact Cu (BA (BA h.own ⟨w.heap.size,0,aC⟩ (by simp;omega) x0) ⟨w.heap.size,1,aC⟩ (by simp;omega) x1) (by omega)
 ·exact(AN.less (AN.less h.kept b (fun i a=>.inr (by have:=aB.1 a;omega))) c (fun i a=>.inr (by have:=aB.1 a;omega))).grown
theorem Af2{p:Addr}(o:Obj)(h:w.cell? p=aE v/\w.frozen? p=false):(w.alloc o).cell? p=aE v/\(w.alloc o).frozen? p=false:=by
 have a:=aP w p h.1;have b:=(aG w.heap.size w).alloc (aF _) o;exact⟨(b.cell a).trans h.1,(b.frozen a).trans h.2⟩
theorem VD(B p k:Nat)(kind:ByteArray)(w:World)(h:Rd B w p k)(co:k<=800000)(h1:1<=(rulesOf kind).length):
  Calls prog 165 #[aQ (aE ⟨p,0,aC⟩),.string kind] w fun e w'=>TP (rulesOf kind) B p k w e w':=by
 have ad:=Bf kind;have a1:=TO kind;have bs:=h.lt;have z0:(w.alloc (aH #[.string ⟨#[]⟩,aA aC 0 0] 115)).heap.size=w.heap.size+1:=by simp
 have a2:=Da kind (w.alloc (aH #[.string ⟨#[]⟩,aA aC 0 0] 115));generalize rulesOf kind=R at *;have a3:AN [p] w (w.alloc (aH #[.string ⟨#[]⟩,aA aC 0 0] 115)):=AN.of_below ((aG _ _).alloc (aF _) _);go_enter func165,ntmps165;go_wp2_with (go_at_call 56;refine a2.mono ?_)
 rintro e w1 ⟨v,L,rfl,E,s,A⟩;rw[z0]at s A;clear a2;have bt:L.length=R.length:=by rw[<-E,bX]
 obtain⟨ao,cp,rfl,F⟩:=Ak (show w1.ownsRow (w.heap.size+1) 54 4 v L.length (L.flatMap AO.cells) from Az.head s);rcases F with F | ⟨g,rfl⟩
 ·omega
 have a4:AN [p] w w1:=a3.trans (AN.of_below (by rw[z0];exact A));have a5:Rd B w1 p k:=(h.V ((aG _ _).alloc (aF _) _)).V (by rw[z0];exact A);obtain⟨n,a6⟩:∃n,L.length=n:=⟨_,rfl⟩;have a7:=Bc B p k n w1 a5 (by omega) (by have:=ad.1;omega) (by omega);rw[a6];have M:Hid _:=s;clear s;go_wp2_with (go_at_call 44;refine a7.mono ?_)
 rintro e w2 ⟨x,C,rfl,N,a8⟩;clear a7;have s:=M.out;obtain⟨D,r,T,rfl,bu⟩:=AS L x (by omega);have G:AN [p] w1 w2:=AN.ai a8 (fun g b=>by cases b;simp);have ae:=a4.trans G;have z:=(AX.kept s G (fun i H=>by have:=aB.1 H;omega)).rm;have d:=ad.2 r.I (by rw[<-E];simp);have O:=a1 r.I (by rw[<-E];simp);have af:∃a9∈R,a9.1=r.key:=⟨r.I,by rw[<-E];simp,rfl⟩;have c0:=z.cell 0 (by decide);have P:=z.cell 1 (by decide);have c2:=z.cell 2 (by decide);have c3:=z.cell 3 (by decide);have o1:=z.args;have o2:=z.defs;obtain⟨rk,va,ns,many,cq,ds⟩:=r;simp only[AO.cells,AO.I,bu,aK,aO,bK]at c0 P c2 c3 o1 o2 d O af;have ba:=Aa af;clear af;obtain⟨bo,ca,rfl,F⟩:=Ak o1;obtain⟨f,cb,rfl,ag⟩:=Ak o2;have cr:=ae.size;have ct:w.heap.size+1<=w1.heap.size:=by have:=A.size;rw[z0]at this;exact this
 have cu:=G.size;have Q:w2.heap[w.heap.size]?=aE (aH #[.string ⟨#[]⟩,aA aC 0 0] 115 (0,0)):=AN.heap (AN.trans (AN.of_below (by rw[z0];exact A)) G) (Al _ _) (fun e=>by have:=aB.1 e;omega);clear s z M ad a1 E bt h1 a5 a3 a4 G a8 A z0 h a6;have ah:((w2.alloc (aH #[.string rk,aA bo ns.length ca,.bool many,aA f ds.length cb] 54)).alloc (aH #[.string rk,aA aC 0 0] 115)).heap.size=w2.heap.size+2:=by simp
 have l:Below w2.heap.size w2 ((w2.alloc (aH #[.string rk,aA bo ns.length ca,.bool many,aA f ds.length cb] 54)).alloc (aH #[.string rk,aA aC 0 0] 115)):=((aG _ _).alloc (aF _) _).alloc (by simp) _;have I:((w2.alloc (aH #[.string rk,aA bo ns.length ca,.bool many,aA f ds.length cb] 54)).alloc (aH #[.string rk,aA aC 0 0] 115)).heap[w2.heap.size]?=aE (aH #[.string rk,aA bo ns.length ca,.bool many,aA f ds.length cb] 54 (0,0)):=by rw[Cj _ _ _ (by simp)];exact Al _ _
 have U:((w2.alloc (aH #[.string rk,aA bo ns.length ca,.bool many,aA f ds.length cb] 54)).alloc (aH #[.string rk,aA aC 0 0] 115)).heap[w2.heap.size+1]?=aE (aH #[.string rk,aA aC 0 0] 115 (0,0)):=by have:=Al (w2.alloc (aH #[.string rk,aA bo ns.length ca,.bool many,aA f ds.length cb] 54)) (aH #[.string rk,aA aC 0 0] 115);simpa using this
 have ai:=fun W aj=>Bc B p (k+1) 4 W aj (by omega) (by omega) (by omega)
 have LT:Ef B p (k+1) w w2.heap.size rk (aA bo ns.length ca) ns aC 0 [] ((w2.alloc (aH #[.string rk,aA bo ns.length ca,.bool many,aA f ds.length cb] 54)).alloc (aH #[.string rk,aA aC 0 0] 115)) :=
  ⟨N.V l,AN.heap (S:=[]) (AN.of_below l) Q (by simp),⟨_,_,_,I⟩,U,bP _ _ _ _,AL o1 l,fun g b=>by have:=bD o1 g b;omega,ae.trans (AN.of_below l),by omega,bs,by omega⟩
 obtain⟨bb,bv⟩:∃bb,bb=k+1:=⟨_,rfl⟩;cases many
 case' false =>
  go_wp2_with (go_at_call 44;refine(ai _ LT.rd).mono ?_)
  rintro e J ⟨y,cv,rfl,ak,V⟩;have c:=LT.picked V ak;rcases Nat.eq_zero_or_pos y with rfl | X
  ·have al:AN [p] _ J:=AN.ai V (fun g b=>by cases b;simp);have bc:=al.heap I (fun e=>by have:=aB.1 e;omega);have bd:=AN.own (AL o2 l) al (fun g b e=>by have:=(o2.lt g b).1;have:=aB.1 e;omega);obtain⟨cw,cx,be⟩:=O trivial;rcases ag with ag | ⟨bf,rfl⟩
   ·omega
   have bg:=bd.cells rfl;have cy:J.cell? ⟨w2.heap.size,3,aC⟩=aE (aA (aE ⟨bf,0,aC⟩) ds.length cb):=by rw[aD bc];rfl
   have bw:J.cell? ⟨w2.heap.size+1,1,aC⟩=aE (aA aC 0 0):=by rw[aD c.b7];rfl
   have z5:=c.big;obtain⟨i0,H,X,Y,am⟩:=info_parts OR;have bh:(strs ds).length=ds.length*1:=by rw[CO];omega
   have bi:∀u∈strs ds,u.oneCell'=true:=by intro u Z;simp only[strs,bI]at Z;obtain⟨a9,_,rfl⟩:=Z;rfl
   clear LT Q I U o1 o2 c0 P c2 c3 l ah N V ak bc ai O;generalize w2.heap.size=q at *;generalize bj:ds.length=m at *;go_wp2_with (at_builtin;refine wpList_append_lies _ rfl _ _ 52 rfl (q+2) 9 i0 (.string ⟨#[]⟩) 1 16 underlying52 H X Y am rfl (by decide) (aA aC 0 0) 0 [] rfl (bP _ _ _ _) ⟨bf,0,aC⟩ m cb (strs ds) rfl bh bg bi (by omega) ?c3 ?c4 ?c5 J.heap.size rfl ?_)
   case c3=>unfold maxLen;omega
   case c4=>omega
   case c5=>omega
   intro an ap o bk aq bx cz;have bl:=c.filled (ds:=ds) (g6:=an) (cap6:=ap) aq (by rw[bj];exact bk);have ar:AN [] J o:=AN.ai aq (fun g b=>by cases b);have aa:=ar.heap c.b7 (by simp);have K:=ar.heap c.b4 (by simp);have bz:o.cell? ⟨q+1,0,aC⟩=aE (.string rk):=by rw[aD aa];rfl
   have c1:o.cell? ⟨q+1,1,aC⟩=aE (aA aC 0 0):=by rw[aD aa];rfl
   have c6:o.frozen? ⟨q+1,1,aC⟩=false:=aN aa 1;have au:o.cell? ⟨w.heap.size,0,aC⟩=aE (.string ⟨#[]⟩):=by rw[aD K];rfl
   have av:o.cell? ⟨w.heap.size,1,aC⟩=aE (aA aC 0 0):=by rw[aD K];rfl
   have b0:o.frozen? ⟨w.heap.size,0,aC⟩=false:=aN K 0;have b1:o.frozen? ⟨w.heap.size,1,aC⟩=false:=aN K 1;have c7:=c.qge;have c8:¬w.heap.size=q+1:=by omega
   have c9:¬q+1=w.heap.size:=by omega
   have ab:=Aa (bl.done (k0:=k) (by omega) be (by omega) (.string rk) (aA (aE ⟨an,0,aC⟩) ds.length ap) ba.out);rw[bj]at ab;clear c bl bk aq bx bg bd bi aa K ar al ae be bh;go_wp2;exact bodyPost_ret (v:=cB #[.string rk,aA (aE ⟨an,0,aC⟩) m ap]) (by simp[results,results165,go_sem,au,av]) rfl ab.out
  have Y:((y:Int)==0)=false:=by rw[beq_eq_false_iff_ne];omega
  go_wp2;clear LT Q I U o1 o2 c0 P c2 c3 l ah N V ak;have LT:=c;clear c;generalize w2.heap.size=q at LT⊢
 case' true =>
  go_wp2;clear Q I U o1 o2 c0 P c2 c3 l ah N;generalize ((w2.alloc (aH #[.string rk,aA bo ns.length ca,.bool true,aA f ds.length cb] 54)).alloc (aH #[.string rk,aA aC 0 0] 115))=W at LT⊢;generalize w2.heap.size=q at LT⊢
 all_goals
  clear ai O ag;have bm:∃ac,ac<=k+2/\Ef B p ac w q rk (aA bo ns.length ca) ns aC 0 [] _:=⟨_,by omega,LT⟩;clear LT;go_loopw [8] (fun i wr=>∃(j kk xc:Nat) (xo:Option Addr) (ws:List (List UInt8)),j<=ns.length/\i=.int .i64 (j:Int)/\ws.length=j/\(∀x∈ws,x.length<=200)/\kk<=k+2+2*j/\Ef B p kk w q rk (aA bo ns.length ca) ns xo xc ws wr) (fun i _=>ns.length-(intOf i).toNat)
  case atStart=>obtain⟨ac,b2,LT⟩:=bm;exact⟨0,ac,0,aC,[],by omega,rfl,rfl,by simp,by omega,LT⟩
  case round =>
   obtain⟨j,kk,xc,xo,ws,da,rfl,b3,aw,db,a⟩:=hrel;clear bm;subst b3;by_cases b4:ws.length<ns.length
   ·rcases F with F | ⟨b5,rfl⟩
    ·omega
    have dc:p<q:=Nat.lt_trans a.plt a.qge;have b6:wr.cell? ⟨q+1,1,aC⟩=aE (aA xo ws.length xc):=by rw[aD a.b7];rfl
    have b7:wr.frozen? ⟨q+1,1,aC⟩=false:=aN a.b7 1;have dd:wr.cell? ⟨q,1,aC⟩=aE (aA (aE ⟨b5,0,aC⟩) ns.length ca):=by obtain⟨_,_,_,ax⟩:=a.b6;rw[aD ax];rfl
    have b8:=a.args.cellAt ws.length (by omega);rw[Kk ns ws.length b4]at b8;have bn:=a.own;have bp:∀g,(aS xo ws.length xc).ownBlock=aE g->q+2<=g:=fun g b=>(bn.lt g b).1
    have b9:(aE (q+1):Option Nat)≠(aS xo ws.length xc).ownBlock:=fun e=>by have:=bp _ e.symm;omega
    have cc:∀g,(aS xo ws.length xc).ownBlock=aE g->g ∉ [p]:=fun g b e=>by have h1:=bp g b;have de:=aB.1 e;omega
    have ay:=d.2 ns[ws.length] (aI _);have cd:=fun W aj=>VC B p kk ns[ws.length] ay.1 ay.2 W aj (by omega)
    have M:=a.rd;have ce:=a.big;have cf:Hid _:=a;have df:ws.length<=3:=by have:=d.1;omega
    obtain⟨i0,H,X,Y,am⟩:=info_parts OR;generalize ns[ws.length]=t at *;have dg:ns.length<=3:=d.1;clear a ay d;generalize cg:ns.length=n at *;go_wp2
    go_region_law (first
     | (refine step_append_lies _ (by rfl) _ _ _ (by rfl) (q+2) 9 i0 (.string ⟨#[]⟩) 1 16 underlying52 H X Y am rfl (by decide) (aA xo ws.length xc) ws.length (strs ws) (by rfl) (ch.alloc _) ⟨w3.heap.size,0,aC⟩ 1 1 [.string u] (by rfl) (by rfl) (World.news_of_block (cs:=#[.string u]) (t:=9) (fr:=(0,0)) (heap_alloc_new w3 _)) (by simp[Value.oneCell']) (by omega) (by unfold maxLen;omega) (by omega) (by simp;omega) (w3.heap.size+1) (by simp) ?_;intro g4 ci dh cj bq di dj;have br:=WN az bq b9;have bv:=br.1;have b2:=br.2)
     | (go_simp;go_wp2_with (go_at_call 219;refine(cd _ (TM M 1)).mono ?_;rintro e w3 ⟨u,ck,Z,dk,rfl,cl,cm⟩;have g3:=Aez cm;have dl:=aU ce g3.size;have ch:=AN.own bn (AN.ai (S:=[p]) g3 (fun g b=>by cases b;simp)) cc;have a0:=WN ⟨b6,b7⟩ g3 (by simp;omega);have dm:=a0.1;have dn:=a0.2;have az:=Af2 (aH #[.string u] 9) a0;have dp:=az.1;have dq:=az.2)))
    all_goals
     have cn:=cf.out.next g3 cl bq cj;go_wp2;go_roundw;case rel =>
      refine⟨ws.length+1,ck,ci,aE ⟨g4,0,aC⟩,ws++[u.data.toList],by omega,by go_num,by simp,?_,by omega,cn⟩;intro x C;rcases bV.1 C with C | C
      ·exact aw x C
      ·rw[aB.1 C,Array.length_toList];exact Z
     case measure=>simp[intOf];omega
   ·have dr:wr.cell? ⟨q,1,aC⟩=aE (aA bo ns.length ca):=by obtain⟨_,_,_,ax⟩:=a.b6;rw[aD ax];rfl
    have bz:wr.cell? ⟨q+1,0,aC⟩=aE (.string rk):=by rw[aD a.b7];rfl
    have bw:wr.cell? ⟨q+1,1,aC⟩=aE (aA xo ws.length xc):=by rw[aD a.b7];rfl
    have au:wr.cell? ⟨w.heap.size,0,aC⟩=aE (.string ⟨#[]⟩):=by rw[aD a.b4];rfl
    have av:wr.cell? ⟨w.heap.size,1,aC⟩=aE (aA aC 0 0):=by rw[aD a.b4];rfl
    have b0:wr.frozen? ⟨w.heap.size,0,aC⟩=false:=aN a.b4 0;have b1:wr.frozen? ⟨w.heap.size,1,aC⟩=false:=aN a.b4 1;have ab:=Aa (a.done (k0:=k) (by have:=d.1;omega) aw (by have:=d.1;omega) (.string rk) (aA xo ws.length xc) ba.out);clear a d aw;generalize cg:ns.length=n at *;go_wp2;exact bodyPost_ret (v:=cB #[.string rk,aA xo ws.length xc]) (by simp[results,results165,go_sem,au,av]) rfl ab.out
