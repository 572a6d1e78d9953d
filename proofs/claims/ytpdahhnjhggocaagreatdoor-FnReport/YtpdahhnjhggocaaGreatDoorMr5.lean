import Derived.Test.YtpdahhnjhggocaaGreatDoorMr2
import Derived.Test.YtpdahhnjhggocaaGreatDoorMr4
open Go.Proofs.Tryz
open Go.Value renaming slice->aA,string->aP,pointer->aT,slice->aU,agg->bS,tuple->cB
open List renaming mem_singleton->aB,getElem?_cons_zero->aK,getElem_mem->aM,getElem?_cons_succ->aO,not_mem_nil->aV,mem_cons->aY,take_length->bA,take_append_of_le_length->bB,getElem?_append_right->bD,take_of_length_le->bG,mem_map->bH,getElem?_toArray->bJ,find?_eq_none->bM,mem_append->bO,map_append->bP,length_map->bQ,map_cons->bU,zipWith->bZ
open Option renaming none->aC,some->aG
open Go.RowKit.Below renaming refl->aD
open Nat renaming le_refl->aE,le_trans->aW,add_zero->bI,lt_of_lt_of_le->bN
open Go.Lib renaming cell_of_heap->aF,frozen_of_heap->aQ,decDigits->aR
open Go.World renaming grownBy_alloc->aH,block_lt_of_cell?->aS,ownsRow_nil->bL,setRow->bT
open Go.Obj renaming cells->aI
open ByteArray renaming size_extract->aJ,size_append->aL,size->bK
open Go.Ending renaming returned->aN
open Go.ByteArray renaming toList_eq->aX
open Go renaming heap_alloc_new->aZ,bodyPost_ret->bC,results->bW,heap_setCell_same->bX,wpList_store_row->cA
open Go.World.ownsRow renaming lt->bE
open Go.IntKind renaming i64->bF,u8->bV
open Go.Operand renaming tmp->bR
open Or renaming inr->bY
namespace Go.Proofs.YtpdahhnjhggocaaGreatDoor
open Go.RowKit
set_option maxHeartbeats 16000000
set_option maxRecDepth 100000
variable {ns:List Int}{ws:List (List UInt8)}{k B n m ca cb nw:Nat}{ao bo:Option Addr}{many:Bool}{w:World}
def BC(ns:List Int)(ws:List (List UInt8)):Bool:=decide (ns.length=ws.length)&&(bZ EV ns ws).all id
def EA(ns:List Int)(ws:List (List UInt8))(k:Nat):Prop:=((bZ EV ns ws).take k).all id=true
theorem Ik(h:¬ns.length=ws.length):BC ns ws=false:=by unfold BC;rw[decide_eq_false h];rfl
theorem Jg(k:Nat)(h1:k<ns.length)(a:k<ws.length)(h:EV ns[k] ws[k]=false):BC ns ws=false:=by
 unfold BC;rw[Bool.and_eq_false_iff];right;rw[List.all_eq_false];refine⟨false,?_,by simp⟩;rw[List.mem_iff_getElem];exact⟨k,by simp;omega,by simp[h]⟩
theorem EA.zero(ns:List Int)(ws:List (List UInt8)):EA ns ws 0:=by simp[EA]
theorem EA.succ(a:EA ns ws k)(h1:k<ns.length)(b:k<ws.length)(h:EV ns[k] ws[k]=true):EA ns ws (k+1):=by
 unfold EA at a⊢;rw[List.take_succ_eq_append_getElem (by simp;omega),List.all_append,a];simp[h]
theorem EA.all(a:EA ns ws ns.length)(b:ns.length=ws.length):BC ns ws=true:=by
 unfold BC EA at *;rw[bG (by simp;omega)]at a;rw[a,decide_eq_true b];rfl
theorem JS(ns:List Int)(j:Nat)(h:j<ns.length):(Cw ns)[j]?=aG (.int .i64 ns[j]):=by simp[Cw,h]
theorem ND{u:Nat}{v:Option Addr}{key:ByteArray}(h1:w.ownsRow B 3 1 (aA ao n ca) n (Cw ns))(c:Am w (aA v nw u) nw 1 (strs ws))(I:n<=1000)(J:nw<=1048576)(d:∀t∈ns,1<=t/\t<=6)(o:∀x∈ws,x.length<=1048576)(q:BZ w):
  Calls prog 180 #[bS #[.string key,aA ao n ca,.bool many,aA bo m cb],aA v nw u] w fun e w'=>e=aN (.bool (BC ns ws))/\Below w.heap.size w w':=by
 have C:ns.length=n:=by have:=h1.1;rw[DO]at this;omega
 have K:ws.length=nw:=by have:=c.1;rw[CE]at this;omega
 by_cases D:nw=n
 ·subst D;have E:((nw:Int) != (nw:Int))=false:=by simp
  obtain⟨_,_,ea,z⟩:=Al h1;cases ea
  have f:=(aD w.heap.size w).alloc (aE _) (aI #[.string key,aA ao nw ca,.bool many,aA bo m cb] 54);go_enter func180,ntmps180;go_wp2;go_loopw [16] (fun i wr=>∃j:Nat,j<=nw/\i=.int .i64 (j:Int)/\Below w.heap.size w wr/\EA ns ws j) (fun i _=>nw-(intOf i).toNat)
  case atStart=>exact⟨0,by omega,rfl,f,EA.zero _ _⟩
  case round =>
   obtain⟨j,L,rfl,a,k⟩:=hrel;by_cases M:j<nw
   ·rcases z with z|⟨g,rfl⟩
    ·omega
    obtain⟨h,off,rfl,c2⟩:=(c.V a).word j (by omega);have F:=(AI h1 a).cellAt j (by omega);rw[JS ns j (by omega)]at F;have p:=fun W G=>Ww ns[j] (d _ (aM _)).1 (d _ (aM _)).2 ⟨ws[j].toArray⟩ W (by simpa [bK] using o ws[j] (aM _)) G
    have A:=q.V a;cases b:EV ns[j] ws[j]
    ·have l:=Ab (Jg j (by omega) (by omega) b).symm;have r:∀W,BZ W->Calls prog 225 #[.int .i64 ns[j],.string ⟨ws[j].toArray⟩] W fun e w'=>e=aN (.bool false)/\Below W.heap.size W w':=by rw[<-b];exact p
     generalize ns[j]=x at *;generalize (⟨ws[j].toArray⟩:ByteArray)=y at *;clear p k b o d h1 c q f;go_wp2_with (go_at_call 225;refine(r _ A).mono ?_;rintro e w1 ⟨rfl,s⟩)
     go_ret;exact⟨As l.out,a.trans (s.mono a.size)⟩
    ·have H:=k.succ (by omega) (by omega) b;have r:∀W,BZ W->Calls prog 225 #[.int .i64 ns[j],.string ⟨ws[j].toArray⟩] W fun e w'=>e=aN (.bool true)/\Below W.heap.size W w':=by rw[<-b];exact p
     generalize ns[j]=x at *;generalize (⟨ws[j].toArray⟩:ByteArray)=y at *;clear p k b o d h1 c q f;go_wp2_with (go_at_call 225;refine(r _ A).mono ?_;rintro e w1 ⟨rfl,s⟩)
     go_roundw;case rel=>exact⟨j+1,by omega,by go_num,a.trans (s.mono a.size),H⟩
     case measure=>simp[intOf];omega
   ·obtain rfl:j=nw:=by omega
    have l:=Ab (EA.all (by rw[C];exact k) (by omega)).symm;clear k;go_wp2;go_ret;exact⟨As l.out,a⟩
 ·have E:((nw:Int) != (n:Int))=true:=by rw[bne_iff_ne];omega
  have l:=Ab (Ik (ns:=ns) (ws:=ws) (by omega)).symm;have f:=(aD w.heap.size w).alloc (aE _) (aI #[.string key,aA ao n ca,.bool many,aA bo m cb] 54);clear h1 c o d;go_enter func180,ntmps180;go_wp2;go_ret;exact⟨As l.out,f⟩
variable {R:List Plain}{L:List AL}
def Bv(R:List Plain)(key:ByteArray):Option Plain:=R.find? (fun p=>p.1.toList==key.toList)
def BQ(R:List Plain)(key:ByteArray)(ws:List (List UInt8)):Bool:=match Bv R key with
 | some p=>BC p.2.1 ws
 | none=>false
theorem Ev{key:ByteArray}{p:Plain}(ws:List (List UInt8))(h:Bv R key=aG p):BQ R key ws=BC p.2.1 ws:=by unfold BQ;rw[h]
theorem C4{key:ByteArray}(ws:List (List UInt8))(h:Bv R key=aC):BQ R key ws=false:=by unfold BQ;rw[h]
def Cd(L:List AL)(key:ByteArray)(k:Nat):Prop:=∀r∈L.take k,(r.key.toList==key.toList)=false
theorem Cd.zero(L:List AL)(key:ByteArray):Cd L key 0:=by simp[Cd]
theorem Cd.succ{D T:List AL}{r:AL}{key:ByteArray}(h:Cd (D++r::T) key D.length)(b:(r.key.toList==key.toList)=false):Cd (D++r::T) key (D.length+1):=by
 unfold Cd at *;rw[bB (aE _),bA]at h;rw[List.take_append,bG (by omega),show D.length+1-D.length=1 from by omega];intro s a;simp only[List.take_succ_cons,List.take_zero,bO,aB]at a;rcases a with a|rfl
 ·exact h s a
 ·exact b
theorem Cd.none{key:ByteArray}(h:Cd L key L.length):Bv (L.map AL.I) key=aC:=by
 unfold Cd at h;rw[bA]at h;unfold Bv;rw[bM];intro p a;obtain⟨r,b,rfl⟩:=bH.1 a;rw[show (AL.I r).1=r.key from rfl,h r b];decide
theorem Cd.hit{D T:List AL}{r:AL}{key:ByteArray}(h:Cd (D++r::T) key D.length)(a:(r.key.toList==key.toList)=true):Bv ((D++r::T).map AL.I) key=aG r.I:=by
 unfold Cd at h;rw[bB (aE _),bA]at h;unfold Bv;rw[bP,List.find?_append,bM.2,Option.none_or,bU,List.find?_cons_of_pos]
 ·exact a
 ·intro p b;obtain⟨s,c,rfl⟩:=bH.1 b;rw[show (AL.I s).1=s.key from rfl,h s c];decide
def Un(R:List Plain):Prop:=R.length<=12/\∀p∈R,p.2.1.length<=3/\∀t∈p.2.1,1<=t/\t<=6
theorem Bm(kind:ByteArray):Un (rulesOf kind):=by
 unfold rulesOf;split
 ·exact⟨by decide,by decide⟩
 ·split
  ·exact⟨by decide,by decide⟩
  ·split
   ·exact⟨by decide,by decide⟩
   ·exact⟨by decide,by simp⟩
def Ou(R:List Plain)(key:ByteArray)(e:Ending):Prop:=(Bv R key=aC/\e=aN (.int .i64 (-1)))\/∃D p T,R=D++p::T/\Bv R key=aG p/\e=aN (.int .i64 (D.length:Int))
theorem Wy{D T:List AL}{r:AL}{key:ByteArray}(h:Bv ((D++r::T).map AL.I) key=aG r.I):Ou ((D++r::T).map AL.I) key (aN (.int .i64 (D.length:Int))) :=
 .inr ⟨D.map AL.I,r.I,T.map AL.I,by simp,h,by simp⟩
theorem LV(kind key:ByteArray)(w:World):Calls prog 90 #[.string kind,.string key] w fun e w'=>Below w.heap.size w w'/\Ou (rulesOf kind) key e:=by
 have b:=Bm kind;have h:=Cf kind w;generalize rulesOf kind=R at b h⊢;go_enter func90,ntmps90;go_wp2_with (go_at_call 56;refine h.mono ?_)
 rintro e w1 ⟨v,L,rfl,k,c,l⟩;clear h;have f:=c.rm;obtain⟨ao,s,rfl,m⟩:=Al (show w1.ownsRow w.heap.size 54 4 v L.length (L.flatMap AL.cells) from Ay.head c);have t:L.length<=12:=by have:=b.1;rw[<-k,bQ]at this;exact this
 generalize q:L.length=n at *;go_wp2;go_loop [6] (fun i=>∃j:Nat,j<=n/\i=.int .i64 (j:Int)/\Cd L key j) (fun i=>n-(intOf i).toNat)
 case atStart=>exact⟨0,by omega,rfl,Cd.zero _ _⟩
 case round =>
  obtain⟨j,u,rfl,a⟩:=hrel;by_cases x:j<n
  ·rcases m with m|⟨g,rfl⟩
   ·omega
   obtain⟨D,r,T,rfl,o⟩:=AC L j (by omega);have c0:=f.cell 0 (by decide);obtain⟨rk,va,ns,many,y,ds⟩:=r;simp only[AL.cells,o,aK,bI]at c0;subst o;cases p:(rk.toList==key.toList)
   ·have d:=a.succ p;clear a c f b;go_wp2;go_round
    case rel=>exact⟨D.length+1,by omega,by go_num,d⟩
    case measure=>simp[intOf];omega
   ·have d:=Ab (a.hit p);clear a c f b;go_wp2;go_ret;subst k;exact⟨l,Wy d.out⟩
  ·obtain rfl:j=n:=by omega
   have d:=Ab (Cd.none (q▸a));clear a c f b;go_wp2;go_ret;exact⟨l,.inl ⟨k▸d.out,rfl⟩⟩
theorem Jh{Q:Nat}{S:Option Addr}(kind key:ByteArray)(E:Am w (aA S nw Q) nw 1 (strs ws))(ah:nw<=1048576)(F:∀x∈ws,x.length<=1048576):
  Calls prog 120 #[.string kind,.string key,aA S nw Q] w fun e w'=>e=aN (.bool (BQ (rulesOf kind) key ws))/\Below w.heap.size w w':=by
 have ai:ws.length=nw:=by have:=E.1;rw[CE]at this;omega
 have G:=Bm kind;have u:=fun W=>Cf kind W
 have z:=LV kind key w;generalize rulesOf kind=R at G u z⊢;go_enter func120,ntmps120;go_wp2_with (go_at_call 90;refine z.mono ?_)
 rintro e w1 ⟨A,⟨B,rfl⟩|⟨D,p,T,rfl,B,rfl⟩⟩
 ·clear u z;go_wp2;go_ret;exact⟨As (C4 ws B).symm,A⟩
 ·clear z;have aj:¬((D.length:Int)<0):=by omega
  go_wp2_with (go_at_call 56;refine(u w1).mono ?_)
  rintro e w2 ⟨v,L,rfl,H,I,U⟩;have V:L.length=D.length+(T.length+1):=by have:=congrArg List.length H;simpa using this
  obtain⟨J,r,K,rfl,X⟩:=AC L D.length (by omega);have M:r.I=p:=by
   have:=congrArg (fun l=>l[D.length]?) H;simp only[bP,bU]at this;rw[bD (by simp;omega),bD (by simp)]at this;simpa [X] using this
  have N:=I.rm;have a:=G.2 p (by simp);have b:=Ab (show BC r.I.2.1 ws=BQ (D++p::T) key ws by rw[M,Ev ws B]);rw[<-M]at a;obtain⟨ao,ak,rfl,f⟩:=Al (show w2.ownsRow w1.heap.size 54 4 v (J++r::K).length ((J++r::K).flatMap AL.cells) from Ay.head I);rcases f with f|⟨g,rfl⟩
  ·simp at f
  have k:=N.cell 1 (by decide);have o1:=N.args;obtain⟨rk,va,ns,many,aa,ds⟩:=r;simp only[AL.cells,AL.I,X,aK,aO]at k o1 a b;have al:ns.length<=3:=a.1;have ab:(J++⟨rk,va,ns,many,aa,ds⟩::K).length=D.length+(T.length+1):=V;rw[ab];have O:=(E.V A).V U;generalize ac:ns.length=n at *;obtain⟨bo,cb,rfl,f⟩:=Al o1;have ad:(D.length:Int)<((D.length+(T.length+1):Nat):Int):=by omega
  have o:=A.trans (U.mono A.size);clear u I N G M H B E V;by_cases ae:n=nw
  ·subst ae;have af:((n:Int) != (n:Int))=false:=by simp
   go_wp2;go_loopw [9] (fun i wr=>∃j:Nat,j<=n/\i=.int .i64 (j:Int)/\Below w2.heap.size w2 wr/\EA ns ws j) (fun i _=>n-(intOf i).toNat)
   case atStart=>exact⟨0,by omega,rfl,aD _ _,EA.zero _ _⟩
   case round =>
    obtain⟨j,am,rfl,c,s⟩:=hrel;by_cases ad:j<n
    ·rcases f with f|⟨q,rfl⟩
     ·omega
     obtain⟨h,off,rfl,c2⟩:=(O.V c).word j (by omega);have k:=(AI o1 c).cellAt j (by omega);rw[JS ns j (by omega)]at k;have C:=fun W=>Uk ns[j] (a.2 _ (aM _)).1 (a.2 _ (aM _)).2 ⟨ws[j].toArray⟩ W (by simpa [bK] using F ws[j] (aM _))
     have Y:=aS wr _ k;have Z:=aS wr _ c2;cases m:EV ns[j] ws[j]
     ·have t:=Ab (show false=BQ (D++p::T) key ws by rw[<-b.out];exact(Jg j (by omega) (by omega) m).symm);have P:∀W,Calls prog 171 #[.int .i64 ns[j],.string ⟨ws[j].toArray⟩] W fun e w'=>e=aN (.bool false)/\Below W.heap.size W w':=by rw[<-m];exact C
      generalize ns[j]=x at *;generalize (⟨ws[j].toArray⟩:ByteArray)=y at *;clear C s m F a o1 O b;go_wp2
      go_region_held3 (fun W=>W.cell? ⟨q,j,aC⟩=aG (.int .i64 x)/\W.cell? ⟨h,off+j,aC⟩=aG (.string y))
       (first|go_keep|(refine⟨(d.cell Y).trans k,(d.cell Z).trans c2⟩))
       (first|(go_at_call 171;refine(P _).mono ?_;rintro e w3 ⟨rfl,d⟩))
      all_goals
       go_wp2;go_ret;exact⟨As t.out,o.trans ((c.trans (((aD wr.heap.size wr).drew.trans d).mono c.size)).mono o.size)⟩
     ·have ag:=s.succ (by omega) (by omega) m;have P:∀W,Calls prog 171 #[.int .i64 ns[j],.string ⟨ws[j].toArray⟩] W fun e w'=>e=aN (.bool true)/\Below W.heap.size W w':=by rw[<-m];exact C
      generalize ns[j]=x at *;generalize (⟨ws[j].toArray⟩:ByteArray)=y at *;clear C s m F a o1 O b;go_wp2
      go_region_held3 (fun W=>W.cell? ⟨q,j,aC⟩=aG (.int .i64 x)/\W.cell? ⟨h,off+j,aC⟩=aG (.string y))
       (first|go_keep|(refine⟨(d.cell Y).trans k,(d.cell Z).trans c2⟩))
       (first|(go_at_call 171;refine(P _).mono ?_;rintro e w3 ⟨rfl,d⟩))
      all_goals
       go_wp2;go_roundw;case rel=>exact⟨j+1,by omega,by go_num,c.trans (((aD wr.heap.size wr).drew.trans d).mono c.size),ag⟩
       case measure=>simp[intOf];omega
    ·obtain rfl:j=n:=by omega
     have t:=Ab (show true=BQ (D++p::T) key ws by rw[<-b.out];exact(EA.all (by rw[ac];exact s) (by omega)).symm);clear s b;go_wp2;go_ret;exact⟨As t.out,o.trans (c.mono o.size)⟩
  ·have af:((n:Int) != (nw:Int))=true:=by rw[bne_iff_ne];omega
   have t:=Ab (show false=BQ (D++p::T) key ws by rw[<-b.out,Ik (by omega)]);go_wp2;go_ret;exact⟨As t.out,o⟩
section
open Go.Lib (decDigits)
theorem Y2:aR 100=[49,48,48]:=by
 rw[aR,dif_neg (by decide),aR,dif_neg (by decide),aR,dif_pos (by decide)];rfl
theorem Aa5:aR 1000=[49,48,48,48]:=by
 rw[aR,dif_neg (by decide),show 1000/10=100 from rfl,Y2];rfl
theorem Af4:aR 1=[49]:=by rw[aR,dif_pos (by decide)];rfl
theorem Af5:aR 0=[48]:=by rw[aR,dif_pos (by decide)];rfl
theorem Y3:CI [49,48,48]=true:=(Eu _).2 ⟨100,by omega,Y2.symm⟩
theorem Aa6:CI [49,48,48,48]=true:=(Eu _).2 ⟨1000,by omega,Aa5.symm⟩
theorem Af6:CI [49]=true:=(Eu _).2 ⟨1,by omega,Af4.symm⟩
theorem Af7:CI [48]=true:=(Eu _).2 ⟨0,by omega,Af5.symm⟩
theorem Aer:nameB [122]=true:=by decide
theorem Y4:nameB [99,111,114,101]=true:=by decide
theorem WI:Gc [110,111,110,101]=true:=by decide
theorem Aes:Uf [110,111]=true:=by decide
def Ow(R:List Plain):Prop:=∀p∈R,p.2.2.1=false->BQ R p.1 p.2.2.2=true
theorem WK:Ow teamRules:=by
 intro p a;simp only[teamRules,aY,aV,or_false]at a;rcases a with rfl|rfl <;> intro _ <;> simp[BQ,Bv,teamRules,BC,EV,aX,Y3,Aa6]
theorem Ur:Ow berthRules:=by
 intro p a;simp only[berthRules,aY,aV,or_false]at a;rcases a with rfl|rfl|rfl|rfl <;> intro b <;> first|(cases b;done)|simp[BQ,Bv,berthRules,BC,EV,aX,Y3,Aer]
theorem Pk:Ow serviceRules:=by
 intro p a;simp only[serviceRules,aY,aV,or_false]at a;rcases a with rfl|rfl|rfl|rfl|rfl|rfl|rfl|rfl|rfl|rfl|rfl|rfl <;> intro b <;> first|(cases b;done)|simp[BQ,Bv,serviceRules,BC,EV,aX,Af6,Af7,Y4,WI,Aes]
theorem Gi(kind:ByteArray):Ow (rulesOf kind):=by
 unfold rulesOf;split
 ·exact WK
 ·split
  ·exact Ur
  ·split
   ·exact Pk
   ·intro p a;simp at a
def Pl(R:List Plain):Prop:=∀p∈R,p.2.2.2.length<=3/\∀d∈p.2.2.2,d.length<=200
theorem Hd(kind:ByteArray):Pl (rulesOf kind):=by
 unfold rulesOf;split
 ·unfold Pl;decide
 ·split
  ·unfold Pl;decide
  ·split
   ·unfold Pl;decide
   ·intro p a;simp at a
end
variable {wr W:World}{cs:Array Value}{v:Value}
theorem Ai(w:World)(o:Obj):(w.alloc o).heap[w.heap.size]?=aG o:=by
 show (w.heap.push o)[w.heap.size]?=aG o
 rw[Array.getElem?_push_size]
theorem Cs(w:World)(o:Obj)(k:Nat)(h:k<w.heap.size):(w.alloc o).heap[k]?=w.heap[k]?:=by
 show (w.heap.push o)[k]?=_
 rw[Array.getElem?_push_lt h,Array.getElem?_eq_getElem h]
structure Y8(w W:World)(cs:Array Value):Prop where
 block:W.heap[w.heap.size]?=aG (aI cs 54 (0,0))
 V:Below w.heap.size w W
theorem Ac6{b:Array Value}(a:Below w.heap.size w wr)(c:wr.heap[w.heap.size]?=aG (aI b 54 (0,0)))(cs:Array Value):Y8 w (wr.setRow w.heap.size cs) cs :=
 ⟨setRow_heap _ _ _ _ _ _ c,⟨a.os,a.tape,a.output,by rw[setRow_size];exact a.size,fun k d=>(setRow_other _ _ _ _ (by omega)).trans (a.block k d)⟩⟩
theorem Y8.cell(h:Y8 w W cs)(j:Nat):W.cell? ⟨w.heap.size,j,aC⟩=cs[j]?:=by
 unfold World.cell?;rw[h.block];rfl
def Y9(L:List AL)(key:ByteArray)(e:Ending):Prop:=(Bv (L.map AL.I) key=aC/\e=aN (cB #[bS #[.string ⟨#[]⟩,aA aC 0 0,.bool false,aA aC 0 0],.bool false]))\/∃r∈L,Bv (L.map AL.I) key=aG r.I/\e=aN (cB #[bS #[.string r.key,r.va,.bool r.many,r.vd],.bool true])
theorem Pn(key:ByteArray)(h:Bh B w v L)(C:L.length<=12):Calls prog 93 #[v,.string key] w fun e w'=>Below w.heap.size w w'/\Y9 L key e:=by
 have b:=h.rm;obtain⟨ao,E,rfl,s⟩:=Al (show w.ownsRow B 54 4 v L.length (L.flatMap AL.cells) from Ay.head h);generalize z:L.length=n at *;go_enter func93,ntmps93;go_wp2;go_loopw [10] (fun i wr=>∃j:Nat,j<=n/\i=.int .i64 (j:Int)/\Below (w.heap.size+1) (w.alloc (aI #[.string ⟨#[]⟩,aA aC 0 0,.bool false,aA aC 0 0] 54)) wr/\Cd L key j) (fun i _=>n-(intOf i).toNat)
 case atStart=>exact⟨0,by omega,rfl,aD _ _,Cd.zero _ _⟩
 case round =>
  obtain⟨j,F,rfl,k,d⟩:=hrel;have f:Below w.heap.size w wr:=((aD w.heap.size w).alloc (aE _) _).trans (k.mono (by omega));have o:wr.heap[w.heap.size]?=aG (aI #[.string ⟨#[]⟩,aA aC 0 0,.bool false,aA aC 0 0] 54 (0,0)):=by
   rw[k.block _ (by omega)];exact Ai _ _
  by_cases G:j<n
  ·rcases s with s|⟨g,rfl⟩
   ·omega
   obtain⟨D,r,T,rfl,t⟩:=AC L j (by omega);have c0:=(b.V f).cell 0 (by decide);have A:=(b.V f).cell 1 (by decide);have c2:=(b.V f).cell 2 (by decide);have c3:=(b.V f).cell 3 (by decide);have o1:=b.args;have o2:=b.defs;obtain⟨rk,va,ns,many,H,ds⟩:=r;simp only[AL.cells,t,aK,aO,bI]at c0 A c2 c3 o1 o2;generalize I:ns.length=p at o1;generalize J:ds.length=q at o2;obtain⟨bo,ca,rfl,_⟩:=Al o1;obtain⟨l,cb,rfl,_⟩:=Al o2;subst t;cases u:(rk.toList==key.toList)
   ·have m:=d.succ u;clear d h b o1 o2;go_wp2;go_roundw;case rel=>exact⟨D.length+1,by omega,by go_num,k.alloc (by have:=k.size;simp at this;omega) _,m⟩
    case measure=>simp[intOf];omega
   ·have m:=Ab (d.hit u);have x:w.heap.size<wr.heap.size:=by have:=k.size;simp at this;omega
    have y:(wr.alloc (aI #[.string rk,aA bo p ca,.bool many,aA l q cb] 54)).heap[w.heap.size]?=aG (aI #[.string ⟨#[]⟩,aA aC 0 0,.bool false,aA aC 0 0] 54 (0,0)):=by rw[Cs _ _ _ x];exact o
    have a:=Ac6 (f.alloc (Nat.le_of_lt x) (aI #[.string rk,aA bo p ca,.bool many,aA l q cb] 54)) y #[.string rk,aA bo p ca,.bool many,aA l q cb];clear d h b o1 o2;go_wp2_with (with_reducible show wpList _ _ _ (Oper.mk _ (Op.store _ (bR 4) _) _ _ _ _::_) _ _;refine cA rfl 54 _ _ rfl w.heap.size #[.string rk,aA bo p ca,.bool many,aA l q cb] ?_ ?_ 54 _ y ?_ ?_ ?_ ?_)
    all_goals (first|rfl|kernel_rfl|skip)
    have z0:=a.cell 0;have c:=a.cell 1;have z2:=a.cell 2;have z3:=a.cell 3;generalize bT _ _ _=W at a z0 c z2 z3⊢;simp only[bJ,aK,aO]at z0 c z2 z3;exact bC (v:=cB #[bS #[.string rk,aA bo p ca,.bool many,aA l q cb],.bool true]) (by simp[bW,results93,go_sem,z0,c,z2,z3]) rfl ⟨a.V,.inr ⟨_,List.mem_append_right _ (List.mem_cons_self ..),m.out,rfl⟩⟩
  ·obtain rfl:j=n:=by omega
   have m:=Ab (Cd.none (z▸d));clear d h b;have a:=Ac6 f o #[.string ⟨#[]⟩,aA aC 0 0,.bool false,aA aC 0 0];go_wp2_with (with_reducible show wpList _ _ _ (Oper.mk _ (Op.store _ (bR 4) _) _ _ _ _::_) _ _;refine cA rfl 54 _ _ rfl w.heap.size #[.string ⟨#[]⟩,aA aC 0 0,.bool false,aA aC 0 0] ?_ ?_ 54 _ o ?_ ?_ ?_ ?_)
   all_goals (first|rfl|kernel_rfl|skip)
   have z0:=a.cell 0;have c:=a.cell 1;have z2:=a.cell 2;have z3:=a.cell 3;generalize bT _ _ _=W at a z0 c z2 z3⊢;simp only[bJ,aK,aO]at z0 c z2 z3;exact bC (v:=cB #[bS #[.string ⟨#[]⟩,aA aC 0 0,.bool false,aA aC 0 0],.bool false]) (by simp[bW,results93,go_sem,z0,c,z2,z3]) rfl ⟨a.V,.inl ⟨m.out,rfl⟩⟩
variable {w':World}
theorem Nt(B:Nat)(a:Option Addr)(c cap:Nat)(w:World)(l:B<=w.heap.size)(r:c<=1048576)(s:c<=cap)(t:cap<=9223372036854775807)
  (m:c=0\/∃b off,a=aG ⟨b,off,aC⟩/\b<B/\∀i,i<c->∃d:Nat,d<256/\w.cell? ⟨b,off+i,aC⟩=aG (.int .u8 (d:Int))) :
  Calls prog 42 #[aA a c cap] w fun e w'=>e=aN (aT (aG ⟨w.heap.size,0,aC⟩))/\Rd B w' w.heap.size 0/\Below w.heap.size w w':=by
 by_cases h:c<=2000
 ·have p:¬(2000:Int)<(c:Int):=by omega
  go_enter func42,ntmps42;go_wp2;go_ret;refine⟨rfl,⟨l,a,c,cap,aZ w _,h,?_⟩,(aD _ _).alloc (aE _) _⟩;rcases m with n|⟨b,off,q,f,g⟩
  ·exact Or.inl n
  ·exact bY ⟨b,off,q,f,fun i o=>by obtain⟨d,j,k⟩:=g i o;exact⟨d,j,by rw[((aD w.heap.size w).alloc (aE _) _).cell (by simp;omega)];exact k⟩⟩
 ·have p:(2000:Int)<(c:Int):=by omega
  rcases m with n|⟨b,off,rfl,f,g⟩
  ·omega
  ·go_enter func42,ntmps42;go_wp2;go_ret;refine⟨rfl,⟨l,_,2000,cap,aZ w _,by omega,bY ⟨b,off,rfl,f,fun i o=>?_⟩⟩,(aD _ _).alloc (aE _) _⟩;obtain⟨d,j,k⟩:=g i (by omega);exact⟨d,j,by rw[((aD w.heap.size w).alloc (aE _) _).cell (by simp;omega)];exact k⟩
theorem Nu{row:Option Nat}(h:w.drew.grownBy w' row):w.grownBy w' row:=⟨h.os,h.tape,h.output,h.size,h.block⟩
theorem Agc(z:Nat)(a:z<8):∃u:ByteArray,u.size<=4/\([aP ⟨#[32]⟩,aP ⟨#[10]⟩,aP ⟨#[34]⟩,aP ⟨#[35]⟩,aP ⟨#[92]⟩,aP ⟨#[48]⟩,aP ⟨#[101,110,100,10]⟩,aP ⟨#[120]⟩]:List Value)[z]'a=.string u :=
 match z,a with
 | 0,_=>⟨_,by decide,rfl⟩
 | 1,_=>⟨_,by decide,rfl⟩
 | 2,_=>⟨_,by decide,rfl⟩
 | 3,_=>⟨_,by decide,rfl⟩
 | 4,_=>⟨_,by decide,rfl⟩
 | 5,_=>⟨_,by decide,rfl⟩
 | 6,_=>⟨_,by decide,rfl⟩
 | 7,_=>⟨_,by decide,rfl⟩
theorem Aci(x n:Nat)(a:x<256)(b:n<=1000000):∃i:Nat,i<=n/\(x:Int)*((n:Int)+1)/256=(i:Int)/\0<=(x:Int)*((n:Int)+1)/\(x:Int)*((n:Int)+1)<=1000000000:=by
 have h1:x*(n+1)<=255*(n+1):=Nat.mul_le_mul (by omega) (aE _);have e:(x:Int)*((n:Int)+1)=((x*(n+1):Nat):Int):=by rw[Int.natCast_mul];rfl
 rw[e];generalize x*(n+1)=q at *;exact⟨q/256,by omega,by omega,by omega,by omega⟩
theorem Acj(E:Int):∃c:UInt8,bV.wrap E=(c.toNat:Int):=by
 refine⟨UInt8.ofNat ((bV.wrap E).toNat),?_⟩;rw[IntKind.wrap_u8,UInt8.toNat_ofNat'];omega
theorem Nv(B p k:Nat)(s:ByteArray)(w:World)(h:Rd B w p k)(D:k<=900000)(m:s.size<=1000000):
  Calls prog 79 #[aT (aG ⟨p,0,aC⟩),.string s] w fun e w'=>GL (2*s.size+10) B p w e w' k 3:=by
 go_enter func79,ntmps79;go_wp2_with (go_at_call 44;refine(A1 B p k 256 w h (by omega) (by omega) (by omega)).mono ?_)
 rintro e w1 ⟨x,n,rfl,h1,g⟩;obtain⟨i,E,j,o,q⟩:=Aci x s.size n m;clear h;go_wp2_with (go_at_call 44;refine(A1 B p (k+1) 5 w1 h1 (by omega) (by omega) (by omega)).mono ?_)
 rintro e w2 ⟨y,F,rfl,a,l⟩;have b:=Ah g l;rw[j];clear g l h1 o q j;have r:y=0\/y=1\/y=2\/y=3\/y=4:=by omega
 rcases r with rfl|rfl|rfl|rfl|rfl
 ·go_wp2;go_ret;exact⟨_,k+1+1,by simp only[aJ];omega,by omega,rfl,a,b⟩
 ·have t:(0:Int)<=(i:Int):=by omega
  have v:(i:Int)<=(s.size:Int):=by omega
  go_wp2
  go_region_with (first
    | (go_at_call 44;refine(A1 B p (k+1+1) 8 _ (a.V (((aD _ w2).alloc (aE _) _).drew)) (by omega) (by omega) (by omega)).mono ?_;rintro e w3 ⟨c,f,rfl,d,g3⟩;obtain⟨u,z,G⟩:=E1 w2 w3 [⟨#[32]⟩,⟨#[10]⟩,⟨#[34]⟩,⟨#[35]⟩,⟨#[92]⟩,⟨#[48]⟩,⟨#[101,110,100,10]⟩,⟨#[120]⟩] 4 c p (by decide) f (Nu g3) a.lt)
    | (go_at_call 44;refine(A1 B p (k+1+1) 8 _ (a.V ((aD _ w2).drew)) (by omega) (by omega) (by omega)).mono ?_;rintro e w3 ⟨c,f,rfl,d,g3⟩;obtain⟨u,z,H⟩:=Agc c f))
  all_goals
   go_wp2;go_ret;refine⟨_,k+1+1+1,?_,by omega,rfl,?_,?_⟩
   ·simp only[aL,aJ];omega
   ·first|exact d|exact d.V ((aD _ _).alloc (aE _) _)
   ·first|exact Ah b (Ah (BI (aH _ _ _) _) (Nu g3))|exact Ah b (Ah (Nu g3) (BI (aH _ _ _) _))
 ·by_cases A:i<s.size
  ·go_wp2;go_quiet (fail)
   go_wp2;go_ret;exact⟨_,k+1+1,by simp only[aL,aJ];omega,by omega,rfl,Ns a _,KQ b _⟩
  ·go_wp2;go_ret;exact⟨_,k+1+1,by simp only[aL,aJ];omega,by omega,rfl,a,b⟩
 ·by_cases A:i<s.size
  ·have t:(0:Int)<=(i:Int):=by omega
   have v:(i:Int)<(s.size:Int):=by omega
   go_wp2;have C:bF.wrap ((i:Int)+1)=(i:Int)+1:=by rw[IntKind.wrap_i64];omega
   have I:(0:Int)<=(i:Int)+1:=by omega
   have J:(i:Int)+1<=(s.size:Int):=by omega
   have K:((i:Int)+1).toNat=i+1:=by omega
   go_region_with (first
    | (go_at_call 44;refine(A1 B p (k+1+1) 8 _ (a.V ((aD _ w2).drew)) (by omega) (by omega) (by omega)).mono ?_;rintro e w3 ⟨c,f,rfl,d,g3⟩;obtain⟨cb,L⟩:=Acj (bits .xor .i64 (bF.wrap (s[i].toNat:Int)) (bF.wrap (2 ^ min (IntKind.u64.wrap (c:Int)).toNat 64)));have M:=Jd w3 cb))
   all_goals
    clear C;go_wp2;go_ret;exact⟨_,k+1+1+1,by simp only[aL,aJ];have:(⟨#[cb]⟩:ByteArray).size=1:=rfl;omega,by omega,rfl,d.V ((aD _ _).alloc (aE _) _),Ah b (Ah (Nu g3) (BI (aH _ _ _) _))⟩
  ·go_wp2;go_ret;exact⟨_,k+1+1,by simp only[aL,aJ];omega,by omega,rfl,a,b⟩
 ·go_wp2;go_ret;exact⟨_,k+1+1,by simp only[aL,aJ];omega,by omega,rfl,a,b⟩
variable {p B':Nat}
def Code(B:Nat)(w:World)(a:Option Addr)(c cap:Nat):Prop :=
 c<=1048576/\c<=cap/\cap<=9223372036854775807/\(c=0\/∃b off,a=aG ⟨b,off,aC⟩/\b<B/\∀i,i<c->∃d:Nat,d<256/\w.cell? ⟨b,off+i,aC⟩=aG (.int .u8 (d:Int)))
theorem Ea{a:World}(h:Below B a w)(b:B<=w.heap.size)(d:B<=p)(g:w.grownBy w' (aG p)):Below B a w' :=
 h.grown g b (fun k c=>by simp at c;omega)
theorem Code.V{a:Option Addr}{c cap:Nat}(h:Code B w a c cap)(d:Below B w w')(n:B<=B'):Code B' w' a c cap:=by
 refine⟨h.1,h.2.1,h.2.2.1,?_⟩;rcases h.2.2.2 with e|⟨b,off,f,o,g⟩
 ·exact Or.inl e
 ·exact bY ⟨b,off,f,by omega,fun i j=>by obtain⟨k,l,m⟩:=g i j;exact⟨k,l,by rw[d.cell (by simp;omega)];exact m⟩⟩
theorem ZK(B p k:Nat)(w:World)(h:Rd B w p k)(d:k<=900000):
  Calls prog 219 #[aT (aG ⟨p,0,aC⟩),.int .i64 1] w fun e w'=>GL 200 B p w e w' k 2:=by
 go_enter func219,ntmps219;go_wp2_with (go_at_call 44;refine(A1 B p k 6 _ (h.V ((aD _ _).alloc (aE _) _)) (by omega) (by omega) (by omega)).mono ?_)
 rintro e w2 ⟨y,b,rfl,c,a⟩;obtain⟨u,f,g⟩:=E1 w w2 [⟨#[48]⟩,⟨#[49]⟩,⟨#[50]⟩,⟨#[55]⟩,⟨#[49,48,48]⟩,⟨#[49,48,48,48,48,48,48]⟩] 10 y p (by decide) b a h.lt;go_wp2;go_ret;exact⟨u,k+1,by omega,by omega,rfl,c,Ah (BI (aH _ _ _) _) a⟩
theorem ZL(B p k:Nat)(w:World)(h:Rd B w p k)(d:k<=900000):
  Calls prog 219 #[aT (aG ⟨p,0,aC⟩),.int .i64 2] w fun e w'=>GL 200 B p w e w' k 2:=by
 go_enter func219,ntmps219;go_wp2_with (go_at_call 44;refine(A1 B p k 5 _ (h.V ((aD _ _).alloc (aE _) _)) (by omega) (by omega) (by omega)).mono ?_)
 rintro e w2 ⟨y,b,rfl,c,a⟩;obtain⟨u,f,g⟩:=E1 w w2 [⟨#[48]⟩,⟨#[45,49]⟩,⟨#[53]⟩,⟨#[45,57]⟩,⟨#[45,49,48,48,48,48,48,48]⟩] 10 y p (by decide) b a h.lt;go_wp2;go_ret;exact⟨u,k+1,by omega,by omega,rfl,c,Ah (BI (aH _ _ _) _) a⟩
theorem ZM(B p k:Nat)(w:World)(h:Rd B w p k)(d:k<=900000):
  Calls prog 219 #[aT (aG ⟨p,0,aC⟩),.int .i64 3] w fun e w'=>GL 200 B p w e w' k 2:=by
 go_enter func219,ntmps219;go_wp2_with (go_at_call 44;refine(A1 B p k 4 _ (h.V ((aD _ _).alloc (aE _) _)) (by omega) (by omega) (by omega)).mono ?_)
 rintro e w2 ⟨y,b,rfl,c,a⟩;obtain⟨u,f,g⟩:=E1 w w2 [⟨#[99,111,114,101]⟩,⟨#[122]⟩,⟨#[101,97,115,116]⟩,⟨#[97,45,49]⟩] 10 y p (by decide) b a h.lt;go_wp2;go_ret;exact⟨u,k+1,by omega,by omega,rfl,c,Ah (BI (aH _ _ _) _) a⟩
theorem ZN(B p k:Nat)(w:World)(h:Rd B w p k)(d:k<=900000):
  Calls prog 219 #[aT (aG ⟨p,0,aC⟩),.int .i64 5] w fun e w'=>GL 200 B p w e w' k 2:=by
 go_enter func219,ntmps219;go_wp2_with (go_at_call 44;refine(A1 B p k 2 _ (h.V ((aD _ _).alloc (aE _) _)) (by omega) (by omega) (by omega)).mono ?_)
 rintro e w2 ⟨y,b,rfl,c,a⟩;obtain⟨u,f,g⟩:=E1 w w2 [⟨#[121,101,115]⟩,⟨#[110,111]⟩] 10 y p (by decide) b a h.lt;go_wp2;go_ret;exact⟨u,k+1,by omega,by omega,rfl,c,Ah (BI (aH _ _ _) _) a⟩
theorem ZO(B p k:Nat)(w:World)(h:Rd B w p k)(d:k<=900000):
  Calls prog 219 #[aT (aG ⟨p,0,aC⟩),.int .i64 6] w fun e w'=>GL 200 B p w e w' k 2:=by
 go_enter func219,ntmps219;go_wp2_with (go_at_call 44;refine(A1 B p k 3 _ (h.V ((aD _ _).alloc (aE _) _)) (by omega) (by omega) (by omega)).mono ?_)
 rintro e w2 ⟨y,b,rfl,c,a⟩;obtain⟨u,f,g⟩:=E1 w w2 [⟨#[110,111,110,101]⟩,⟨#[98,101,114,116,104]⟩,⟨#[122,111,110,101]⟩] 10 y p (by decide) b a h.lt;go_wp2;go_ret;exact⟨u,k+1,by omega,by omega,rfl,c,Ah (BI (aH _ _ _) _) a⟩
theorem ZP(B p k:Nat)(w:World)(h:Rd B w p k)(a:k<=900000):
  Calls prog 219 #[aT (aG ⟨p,0,aC⟩),.int .i64 4] w fun e w'=>GL 200 B p w e w' k 2:=by
 go_enter func219,ntmps219;go_wp2_with (go_at_call 243;refine(Vv B p k w h a).mono ?_)
 rintro e w2 ⟨u,b,c,d,rfl,f,g⟩;go_wp2;go_ret;exact⟨u,b,c,d,rfl,f,g⟩
theorem Vw(B p k:Nat)(t:Int)(h1:1<=t)(b:t<=6)(w:World)(h:Rd B w p k)(a:k<=900000):
  Calls prog 219 #[aT (aG ⟨p,0,aC⟩),.int .i64 t] w fun e w'=>GL 200 B p w e w' k 2:=by
 rcases six h1 b with rfl|rfl|rfl|rfl|rfl|rfl
 ·exact ZK B p k w h a
 ·exact ZL B p k w h a
 ·exact ZM B p k w h a
 ·exact ZP B p k w h a
 ·exact ZN B p k w h a
 ·exact ZO B p k w h a
theorem OV(B p k:Nat)(w:World)(h:Rd B w p k)(l:k<=900000):
  Calls prog 164 #[aT (aG ⟨p,0,aC⟩)] w fun e w'=>GL 201 B p w e w' k 2:=by
 go_enter func164,ntmps164;go_wp2_with (go_at_call 44;refine(A1 B p k 2 w h (by omega) (by omega) (by omega)).mono ?_)
 rintro e w1 ⟨x,m,rfl,h1,g⟩;have a:=C8 ⟨#[110]⟩ (20+x) w1 (by decide) (by omega);rw[show ((20+x:Nat):Int)=20+(x:Int) from by omega]at a;go_wp2_with (go_at_call 80;refine a.mono ?_)
 rintro e w1 ⟨t,c,rfl,rfl⟩;clear a;have a:=C8 ⟨#[116]⟩ 201 w1 (by decide) (by omega);go_wp2_with (go_at_call 80;refine a.mono ?_)
 rintro e w1 ⟨v,d,rfl,rfl⟩;clear a;have n:t.size<=201:=by rw[c];show 1*(20+x)<=201;omega
 have o:v.size<=201:=by rw[d];show 1*201<=201;omega
 clear c d;go_wp2_with (go_at_call 44;refine(A1 B p (k+1) 12 _ (h1.V ((aD _ _).alloc (aE _) _)) (by omega) (by omega) (by omega)).mono ?_)
 rintro e w2 ⟨y,i,rfl,j,f⟩;obtain⟨u,b,q⟩:=E1 w1 w2 [⟨#[]⟩,⟨#[48,49]⟩,⟨#[45,48]⟩,⟨#[49,48,48,48,48,48,49]⟩,⟨#[49,50,51,52,53,54,55,56]⟩,⟨#[120,32,121]⟩,⟨#[67,111,114,101]⟩,⟨#[109,97,121,98,101]⟩,t,⟨#[45]⟩,⟨#[43,49]⟩,v] 201 y p (by intro u b;simp only[aY,aV,or_false]at b;rcases b with rfl|rfl|rfl|rfl|rfl|rfl|rfl|rfl|rfl|rfl|rfl|rfl;all_goals first|assumption|decide) i f h1.lt;go_wp2;go_ret;exact⟨u,k+1+1,b,by omega,rfl,j,Ah g (Ah (BI (aH _ _ _) _) f)⟩
theorem Wi(w1 w2:World)(l:List ByteArray)(y p:Nat)(a:y<l.length)(b:(w1.alloc (aI (l.map aP).toArray 9)).grownBy w2 (aG p))(c:p≠w1.heap.size):
  ∃u∈l,w2.cell? ⟨w1.heap.size,y,aC⟩=aG (.string u):=by
 refine⟨l[y],aM _,b.cell ?_ (by simp;omega)⟩;rw[aF (aZ w1 _)];simp[a]
variable {i base q xc:Nat}{e:TypeId}{xs:List Value}{W3 W4:World}{rk:ByteArray}{vn:Value}{xo:Option Addr}
structure AJ(S:List Nat)(w w':World):Prop where
 os:w'.os=w.os
 tape:w'.tape=w.tape
 output:w'.output=w.output
 size:w.heap.size<=w'.heap.size
 block:∀i,i<w.heap.size->i ∉ S->w'.heap[i]?=w.heap[i]?
theorem AJ.trans{S:List Nat}{a b c:World}(h:AJ S a b)(k:AJ S b c):AJ S a c :=
 ⟨k.os.trans h.os,k.tape.trans h.tape,k.output.trans h.output,aW h.size k.size,fun i d e=>(k.block i (bN d h.size) e).trans (h.block i d e)⟩
theorem AJ.ag{S:List Nat}{row:Option Nat}(h:w.grownBy w' row)(a:∀g,row=aG g->g∈S):AJ S w w' :=
 ⟨h.os,h.tape,h.output,h.size,fun i b c=>h.block i b (fun e=>c (a i e.symm))⟩
theorem AJ.of_below{S:List Nat}(h:Below w.heap.size w w'):AJ S w w':=⟨h.os,h.tape,h.output,h.size,fun i a _=>h.block i a⟩
theorem AJ.less{S T:List Nat}{a:World}(h:AJ T a w)(k:AJ S w w')(d:∀i∈S,i∈T\/a.heap.size<=i):AJ T a w' :=
 ⟨k.os.trans h.os,k.tape.trans h.tape,k.output.trans h.output,aW h.size k.size,fun i b c=>(k.block i (bN b h.size) (fun e=>by rcases d i e with h1|h1;exact c h1;omega)).trans (h.block i b c)⟩
theorem AJ.heap{S:List Nat}(h:AJ S w w'){o:Obj}(a:w.heap[i]?=aG o)(b:i ∉ S):w'.heap[i]?=aG o:=by
 rw[h.block i (Array.getElem?_eq_some_iff.1 a).1 b];exact a
theorem AJ.own{S:List Nat}{size:Nat}(h:w.ownsRow base e size v n xs)(k:AJ S w w')(c:∀g,v.ownBlock=aG g->g ∉ S):w'.ownsRow base e size v n xs:=by
 obtain⟨h1,a⟩:=h;refine⟨h1,?_⟩;rcases a with a|⟨g,d,f,b,i,j,l⟩
 ·exact .inl a
 ·exact .inr ⟨g,d,f,b,i,k.heap j (c g (by rw[b];rfl)),l⟩
theorem AJ.rd{S:List Nat}(h:Rd B w p k)(c:AJ S w w')(d:∀i∈S,p<i):Rd B w' p k:=by
 obtain⟨g,a,j,l,m,n,o⟩:=h;refine⟨g,a,j,l,c.heap m (fun e=>Nat.lt_irrefl _ (d _ e)),n,?_⟩;rcases o with q|⟨b,off,r,s,t⟩
 ·exact Or.inl q
 ·refine bY ⟨b,off,r,s,fun i u=>?_⟩;obtain⟨v,x,f⟩:=t i u;refine⟨v,x,?_⟩;have y:=aS w _ f;rw[World.cell?_of_block (c.block b y (fun e=>by have:=d _ e;omega))];exact f
theorem AJ.grown(h:AJ [p] w w'):w.grownBy w' (aG p):=⟨h.os,h.tape,h.output,h.size,fun i a b=>h.block i a (fun e=>b (by rw[aB.1 e]))⟩
theorem AJ.set(w:World)(q j:Nat)(u:Value):AJ [q] w (w.setCell ⟨q,j,aC⟩ u) :=
 ⟨rfl,rfl,rfl,by simp,fun i _ a=>heap_setCell_other w ⟨q,j,aC⟩ i _ (fun e=>a (by simp[e]))⟩
theorem Bh.kept{S:List Nat}(h:Bh B w v L)(k:AJ S w w')(b:∀i∈S,i<B):Bh B w' v L :=
 ⟨fun s a=>AJ.own (h.1 s a) k (fun q c e=>by have h1:=(bE (h.1 s a) q c).1;have d:=b q e;omega),h.2⟩
def Ack(R:List Plain):Prop:=∀p∈R,p.2.2.1=false->1<=p.2.2.2.length/\p.2.2.2.length<=3/\∀d∈p.2.2.2,d.length<=200
theorem T4(kind:ByteArray):Ack (rulesOf kind):=by
 unfold rulesOf;split
 ·unfold Ack;decide
 ·split
  ·unfold Ack;decide
  ·split
   ·unfold Ack;decide
   ·intro p a;simp at a
def T5(R:List Plain)(B p k:Nat)(w:World)(e:Ending)(w':World):Prop :=
 ∃(key:ByteArray) (bo:Option Addr) (cb k':Nat) (ws:List (List UInt8)),(∃q∈R,q.1=key)/\e=aN (bS #[.string key,aA bo ws.length cb])/\w'.ownsRow w.heap.size 9 1 (aA bo ws.length cb) ws.length (strs ws)/\ws.length<=3/\(∀x∈ws,x.length<=200)/\k'<=k+10/\Rd B w' p k'/\w.grownBy w' (aG p)
structure Eb(B p k:Nat)(w:World)(q:Nat)(rk:ByteArray)(vn:Value)(ns:List Int)(xo:Option Addr)(xc:Nat)(ws:List (List UInt8))(W:World):Prop where
 rd:Rd B W p k
 b4:W.heap[w.heap.size]?=aG (aI #[.string ⟨#[]⟩,aA aC 0 0] 115 (0,0))
 b6:∃c0 c2 c3,W.heap[q]?=aG (aI #[c0,vn,c2,c3] 54 (0,0))
 b7:W.heap[q+1]?=aG (aI #[.string rk,aA xo ws.length xc] 115 (0,0))
 own:W.ownsRow (q+2) 9 1 (aA xo ws.length xc) ws.length (strs ws)
 args:W.ownsRow (w.heap.size+1) 3 1 vn ns.length (Cw ns)
 argsLt:∀g,vn.ownBlock=aG g->w.heap.size<g/\g<q
 kept:AJ [p] w W
 big:q+2<=W.heap.size
 plt:p<w.heap.size
 qge:w.heap.size<q
theorem Eb.next{m g3 c:Nat}{u:ByteArray}(h:Eb B p k w q rk vn ns xo xc ws W)
  (r:W.grownBy W3 (aG p)) (s:Rd B W3 p m) (t:(W3.alloc (aI #[.string u] 9)).grownBy W4 (aU xo ws.length xc).ownBlock) (o4:W4.ownsRow (q+2) 9 1 (aA (aG ⟨g3,0,aC⟩) (ws.length+1) c) (ws.length+1) (strs ws++[.string u])) :
  Eb B p m w q rk vn ns (aG ⟨g3,0,aC⟩) c (ws++[u.data.toList]) (W4.setCell ⟨q+1,1,aC⟩ (aA (aG ⟨g3,0,aC⟩) (ws.length+1) c)):=by
 have v:=h.own.lt;have d:AJ (aU xo ws.length xc).ownBlock.toList W3 W4:=(AJ.of_below ((aD _ _).alloc (aE _) _)).trans (AJ.ag t (fun g a=>by rw[a];simp));have f:AJ [q+1] W4 (W4.setCell ⟨q+1,1,aC⟩ (aA (aG ⟨g3,0,aC⟩) (ws.length+1) c)):=AJ.set _ _ _ _;have j:∀i∈(aU xo ws.length xc).ownBlock.toList,q+2<=i:=fun i b=>(v i (by simpa using b)).1
 have n:=h.plt;have x:=h.qge;have l:AJ [p] W W3:=AJ.ag r (fun g a=>by cases a;simp);have K:∀ {i:Nat} {o:Obj},W.heap[i]?=aG o->p<i->i<q+1->(W4.setCell ⟨q+1,1,aC⟩ (aA (aG ⟨g3,0,aC⟩) (ws.length+1) c)).heap[i]?=aG o:=fun y h1 z =>
  f.heap (d.heap (l.heap y (fun e=>by have:=aB.1 e;omega)) (fun e=>by have:=j _ e;omega)) (fun e=>by have:=aB.1 e;omega)
 have A:W4.heap[q+1]?=aG (aI #[.string rk,aA xo ws.length xc] 115 (0,0)):=d.heap (l.heap h.b7 (fun e=>by have:=aB.1 e;omega)) (fun e=>by have:=j _ e;omega);refine⟨?_,K h.b4 n (by omega),(by obtain⟨c0,c2,c3,C⟩:=h.b6;exact⟨c0,c2,c3,K C (by omega) (by omega)⟩),?_,?_,?_,h.argsLt,?_,?_,n,x⟩
 ·exact AJ.rd (AJ.rd s d (fun i b=>by have:=j i b;omega)) f (fun i b=>by have:=aB.1 b;omega)
 ·have:=bX W4 (q+1) 1 _ _ (aA (aG ⟨g3,0,aC⟩) (ws.length+1) c) A;simpa using this
 ·have:=Bo o4 ⟨q+1,1,aC⟩ (by simp) (aA (aG ⟨g3,0,aC⟩) (ws.length+1) c);simpa [strs] using this
 ·exact AJ.own (AJ.own (AJ.own h.args l (fun g a e=>by have:=h.argsLt g a;have:=aB.1 e;omega)) d (fun g a e=>by have:=h.argsLt g a;have:=j _ e;omega)) f (fun g a e=>by have:=h.argsLt g a;have:=aB.1 e;omega)
 ·exact AJ.less (AJ.less (h.kept.trans l) d (fun i b=>.inr (by have:=j i b;omega))) f (fun i b=>.inr (by have:=aB.1 b;omega))
 ·have h1:=h.big;have z:=l.size;have D:=d.size;have E:=f.size;omega
theorem Eb.picked(h:Eb B p k w q rk vn ns xo xc ws W)
  {c:Nat} (f:W.grownBy W3 (aG p)) (j:Rd B W3 p c):Eb B p c w q rk vn ns xo xc ws W3:=by
 have d:=h.plt;have l:=h.qge;have a:AJ [p] W W3:=AJ.ag f (fun g b=>by cases b;simp);have K:∀ {i:Nat} {o:Obj},W.heap[i]?=aG o->p<i->W3.heap[i]?=aG o:=fun m h1=>a.heap m (fun e=>by have:=aB.1 e;omega)
 refine⟨j,K h.b4 d,(by obtain⟨c0,c2,c3,n⟩:=h.b6;exact⟨c0,c2,c3,K n (by omega)⟩),K h.b7 (by omega),AJ.own h.own a (fun g b e=>by have:=(h.own.lt g b).1;have:=aB.1 e;omega),AJ.own h.args a (fun g b e=>by have:=h.argsLt g b;have:=aB.1 e;omega),h.argsLt,h.kept.trans a,aW h.big a.size,d,l⟩
theorem Eb.filled{g6 cap6:Nat}{a:World}{ds:List (List UInt8)}(h:Eb B p k w q rk vn ns aC 0 [] W)
  (f:W.grownBy a aC) (o6:a.ownsRow (q+2) 9 1 (aA (aG ⟨g6,0,aC⟩) ds.length cap6) ds.length (strs ds)) :
  Eb B p k w q rk vn ns (aG ⟨g6,0,aC⟩) cap6 ds (a.setCell ⟨q+1,1,aC⟩ (aA (aG ⟨g6,0,aC⟩) ds.length cap6)):=by
 have j:=h.plt;have l:=h.qge;have m:AJ [q+1] W a:=AJ.ag f (fun g b=>by cases b);have n:=AJ.set a (q+1) 1 (aA (aG ⟨g6,0,aC⟩) ds.length cap6);have r:AJ [] W a:=AJ.ag f (fun g b=>by cases b);have c:=m.trans n;have s:∀i∈[q+1],p<i:=fun i d=>by have:=aB.1 d;omega
 have K:∀ {i:Nat} {o:Obj},W.heap[i]?=aG o->i<q+1->(a.setCell ⟨q+1,1,aC⟩ (aA (aG ⟨g6,0,aC⟩) ds.length cap6)).heap[i]?=aG o:=fun t h1=>c.heap t (fun e=>by have:=aB.1 e;omega)
 refine⟨AJ.rd h.rd c s,K h.b4 (by omega),(by obtain⟨c0,c2,c3,u⟩:=h.b6;exact⟨c0,c2,c3,K u (by omega)⟩),?_,Bo o6 ⟨q+1,1,aC⟩ (by simp) _,AJ.own h.args c (fun g b e=>by have:=h.argsLt g b;have:=aB.1 e;omega),h.argsLt,AJ.less h.kept c (fun i d=>.inr (by have:=aB.1 d;omega)),aW h.big c.size,j,l⟩;have:=bX a (q+1) 1 _ _ (aA (aG ⟨g6,0,aC⟩) ds.length cap6) (r.heap h.b7 (by simp));simpa using this
theorem Eb.done{k0:Nat}(h:Eb B p k w q rk vn ns xo xc ws W)(e:ws.length<=3)(f:∀x∈ws,x.length<=200)(g:k<=k0+10)(x0 x1:Value)(j:∃l∈R,l.1=rk):
  T5 R B p k0 w (aN (bS #[.string rk,aA xo ws.length xc])) ((W.setCell ⟨w.heap.size,0,aC⟩ x0).setCell ⟨w.heap.size,1,aC⟩ x1):=by
 have m:=h.plt;have n:=h.qge;have b:=AJ.set W w.heap.size 0 x0;have c:=AJ.set (W.setCell ⟨w.heap.size,0,aC⟩ x0) w.heap.size 1 x1;have d:∀i∈[w.heap.size],p<i:=fun i a=>by have:=aB.1 a;omega
 refine⟨rk,xo,xc,k,ws,j,rfl,?_,e,f,g,AJ.rd (AJ.rd h.rd b d) c d,?_⟩
 ·exact C3 (Bo (Bo h.own ⟨w.heap.size,0,aC⟩ (by simp;omega) x0) ⟨w.heap.size,1,aC⟩ (by simp;omega) x1) (by omega)
 ·exact(AJ.less (AJ.less h.kept b (fun i a=>.inr (by have:=aB.1 a;omega))) c (fun i a=>.inr (by have:=aB.1 a;omega))).grown
theorem Afb{p:Addr}(o:Obj)(h:w.cell? p=aG v/\w.frozen? p=false):(w.alloc o).cell? p=aG v/\(w.alloc o).frozen? p=false:=by
 have a:=aS w p h.1;have b:=(aD w.heap.size w).alloc (aE _) o;exact⟨(b.cell a).trans h.1,(b.frozen a).trans h.2⟩
theorem Vx(B p k:Nat)(kind:ByteArray)(w:World)(h:Rd B w p k)(cn:k<=800000)(h1:1<=(rulesOf kind).length):
  Calls prog 165 #[aT (aG ⟨p,0,aC⟩),.string kind] w fun e w'=>T5 (rulesOf kind) B p k w e w':=by
 have ad:=Bm kind;have a1:=T4 kind;have br:=h.lt;have z0:(w.alloc (aI #[.string ⟨#[]⟩,aA aC 0 0] 115)).heap.size=w.heap.size+1:=by simp
 have a2:=Cf kind (w.alloc (aI #[.string ⟨#[]⟩,aA aC 0 0] 115));generalize rulesOf kind=R at *;have a3:AJ [p] w (w.alloc (aI #[.string ⟨#[]⟩,aA aC 0 0] 115)):=AJ.of_below ((aD _ _).alloc (aE _) _);go_enter func165,ntmps165;go_wp2_with (go_at_call 56;refine a2.mono ?_)
 rintro e w1 ⟨v,L,rfl,E,s,A⟩;rw[z0]at s A;clear a2;have bs:L.length=R.length:=by rw[<-E,bQ]
 obtain⟨ao,co,rfl,F⟩:=Al (show w1.ownsRow (w.heap.size+1) 54 4 v L.length (L.flatMap AL.cells) from Ay.head s);rcases F with F|⟨g,rfl⟩
 ·omega
 have a4:AJ [p] w w1:=a3.trans (AJ.of_below (by rw[z0];exact A));have a5:Rd B w1 p k:=(h.V ((aD _ _).alloc (aE _) _)).V (by rw[z0];exact A);obtain⟨n,a6⟩:∃n,L.length=n:=⟨_,rfl⟩;have a7:=A1 B p k n w1 a5 (by omega) (by have:=ad.1;omega) (by omega);rw[a6];have M:Hid _:=s;clear s;go_wp2_with (go_at_call 44;refine a7.mono ?_)
 rintro e w2 ⟨x,C,rfl,N,a8⟩;clear a7;have s:=M.out;obtain⟨D,r,T,rfl,bt⟩:=AC L x (by omega);have G:AJ [p] w1 w2:=AJ.ag a8 (fun g b=>by cases b;simp);have ae:=a4.trans G;have z:=(Bh.kept s G (fun i H=>by have:=aB.1 H;omega)).rm;have d:=ad.2 r.I (by rw[<-E];simp);have O:=a1 r.I (by rw[<-E];simp);have af:∃a9∈R,a9.1=r.key:=⟨r.I,by rw[<-E];simp,rfl⟩;have c0:=z.cell 0 (by decide);have P:=z.cell 1 (by decide);have c2:=z.cell 2 (by decide);have c3:=z.cell 3 (by decide);have o1:=z.args;have o2:=z.defs;obtain⟨rk,va,ns,many,cp,ds⟩:=r;simp only[AL.cells,AL.I,bt,aK,aO,bI]at c0 P c2 c3 o1 o2 d O af;have ba:=Ab af;clear af;obtain⟨bo,ca,rfl,F⟩:=Al o1;obtain⟨f,cb,rfl,ag⟩:=Al o2;have cq:=ae.size;have cr:w.heap.size+1<=w1.heap.size:=by have:=A.size;rw[z0]at this;exact this
 have ct:=G.size;have Q:w2.heap[w.heap.size]?=aG (aI #[.string ⟨#[]⟩,aA aC 0 0] 115 (0,0)):=AJ.heap (AJ.trans (AJ.of_below (by rw[z0];exact A)) G) (Ai _ _) (fun e=>by have:=aB.1 e;omega);clear s z M ad a1 E bs h1 a5 a3 a4 G a8 A z0 h a6;have ah:((w2.alloc (aI #[.string rk,aA bo ns.length ca,.bool many,aA f ds.length cb] 54)).alloc (aI #[.string rk,aA aC 0 0] 115)).heap.size=w2.heap.size+2:=by simp
 have l:Below w2.heap.size w2 ((w2.alloc (aI #[.string rk,aA bo ns.length ca,.bool many,aA f ds.length cb] 54)).alloc (aI #[.string rk,aA aC 0 0] 115)):=((aD _ _).alloc (aE _) _).alloc (by simp) _;have I:((w2.alloc (aI #[.string rk,aA bo ns.length ca,.bool many,aA f ds.length cb] 54)).alloc (aI #[.string rk,aA aC 0 0] 115)).heap[w2.heap.size]?=aG (aI #[.string rk,aA bo ns.length ca,.bool many,aA f ds.length cb] 54 (0,0)):=by rw[Cs _ _ _ (by simp)];exact Ai _ _
 have U:((w2.alloc (aI #[.string rk,aA bo ns.length ca,.bool many,aA f ds.length cb] 54)).alloc (aI #[.string rk,aA aC 0 0] 115)).heap[w2.heap.size+1]?=aG (aI #[.string rk,aA aC 0 0] 115 (0,0)):=by have:=Ai (w2.alloc (aI #[.string rk,aA bo ns.length ca,.bool many,aA f ds.length cb] 54)) (aI #[.string rk,aA aC 0 0] 115);simpa using this
 have ai:=fun W aj=>A1 B p (k+1) 4 W aj (by omega) (by omega) (by omega)
 have LT:Eb B p (k+1) w w2.heap.size rk (aA bo ns.length ca) ns aC 0 [] ((w2.alloc (aI #[.string rk,aA bo ns.length ca,.bool many,aA f ds.length cb] 54)).alloc (aI #[.string rk,aA aC 0 0] 115)) :=
  ⟨N.V l,AJ.heap (S:=[]) (AJ.of_below l) Q (by simp),⟨_,_,_,I⟩,U,bL _ _ _ _,AI o1 l,fun g b=>by have:=bE o1 g b;omega,ae.trans (AJ.of_below l),by omega,br,by omega⟩
 obtain⟨bb,bu⟩:∃bb,bb=k+1:=⟨_,rfl⟩;cases many
 case' false =>
  go_wp2_with (go_at_call 44;refine(ai _ LT.rd).mono ?_)
  rintro e J ⟨y,cu,rfl,ak,V⟩;have c:=LT.picked V ak;rcases Nat.eq_zero_or_pos y with rfl|X
  ·have al:AJ [p] _ J:=AJ.ag V (fun g b=>by cases b;simp);have bc:=al.heap I (fun e=>by have:=aB.1 e;omega);have bd:=AJ.own (AI o2 l) al (fun g b e=>by have:=(o2.lt g b).1;have:=aB.1 e;omega);obtain⟨cv,cw,d3⟩:=O trivial;rcases ag with ag|⟨be,rfl⟩
   ·omega
   have bf:=bd.cells rfl;have cx:J.cell? ⟨w2.heap.size,3,aC⟩=aG (aA (aG ⟨be,0,aC⟩) ds.length cb):=by rw[aF bc];rfl
   have bv:J.cell? ⟨w2.heap.size+1,1,aC⟩=aG (aA aC 0 0):=by rw[aF c.b7];rfl
   have z5:=c.big;obtain⟨i0,H,X,Y,am⟩:=info_parts Jc;have bg:(strs ds).length=ds.length*1:=by rw[CE];omega
   have bh:∀u∈strs ds,u.oneCell'=true:=by intro u Z;simp only[strs,bH]at Z;obtain⟨a9,_,rfl⟩:=Z;rfl
   clear LT Q I U o1 o2 c0 P c2 c3 l ah N V ak bc ai O;generalize w2.heap.size=q at *;generalize bi:ds.length=m at *;go_wp2_with (at_builtin;refine wpList_append_lies _ rfl _ _ 52 rfl (q+2) 9 i0 (.string ⟨#[]⟩) 1 16 underlying52 H X Y am rfl (by decide) (aA aC 0 0) 0 [] rfl (bL _ _ _ _) ⟨be,0,aC⟩ m cb (strs ds) rfl bg bf bh (by omega) ?c3 ?c4 ?c5 J.heap.size rfl ?_)
   case c3=>unfold maxLen;omega
   case c4=>omega
   case c5=>omega
   intro an ap o bj aq bw cy;have bk:=c.filled (ds:=ds) (g6:=an) (cap6:=ap) aq (by rw[bi];exact bj);have ar:AJ [] J o:=AJ.ag aq (fun g b=>by cases b);have aa:=ar.heap c.b7 (by simp);have K:=ar.heap c.b4 (by simp);have bx:o.cell? ⟨q+1,0,aC⟩=aG (.string rk):=by rw[aF aa];rfl
   have cz:o.cell? ⟨q+1,1,aC⟩=aG (aA aC 0 0):=by rw[aF aa];rfl
   have c1:o.frozen? ⟨q+1,1,aC⟩=false:=aQ aa 1;have au:o.cell? ⟨w.heap.size,0,aC⟩=aG (.string ⟨#[]⟩):=by rw[aF K];rfl
   have av:o.cell? ⟨w.heap.size,1,aC⟩=aG (aA aC 0 0):=by rw[aF K];rfl
   have bz:o.frozen? ⟨w.heap.size,0,aC⟩=false:=aQ K 0;have b0:o.frozen? ⟨w.heap.size,1,aC⟩=false:=aQ K 1;have c6:=c.qge;have c7:¬w.heap.size=q+1:=by omega
   have c8:¬q+1=w.heap.size:=by omega
   have ab:=Ab (bk.done (k0:=k) (by omega) d3 (by omega) (.string rk) (aA (aG ⟨an,0,aC⟩) ds.length ap) ba.out);rw[bi]at ab;clear c bk bj aq bw bf bd bh aa K ar al ae d3 bg;go_wp2;exact bC (v:=bS #[.string rk,aA (aG ⟨an,0,aC⟩) m ap]) (by simp[bW,results165,go_sem,au,av]) rfl ab.out
  have Y:((y:Int)==0)=false:=by rw[beq_eq_false_iff_ne];omega
  go_wp2;clear LT Q I U o1 o2 c0 P c2 c3 l ah N V ak;have LT:=c;clear c;generalize w2.heap.size=q at LT⊢
 case' true =>
  go_wp2;clear Q I U o1 o2 c0 P c2 c3 l ah N;generalize ((w2.alloc (aI #[.string rk,aA bo ns.length ca,.bool true,aA f ds.length cb] 54)).alloc (aI #[.string rk,aA aC 0 0] 115))=W at LT⊢;generalize w2.heap.size=q at LT⊢
 all_goals
  clear ai O ag;have bl:∃ac,ac<=k+2/\Eb B p ac w q rk (aA bo ns.length ca) ns aC 0 [] _:=⟨_,by omega,LT⟩;clear LT;go_loopw [8] (fun i wr=>∃(j kk xc:Nat) (xo:Option Addr) (ws:List (List UInt8)),j<=ns.length/\i=.int .i64 (j:Int)/\ws.length=j/\(∀x∈ws,x.length<=200)/\kk<=k+2+2*j/\Eb B p kk w q rk (aA bo ns.length ca) ns xo xc ws wr) (fun i _=>ns.length-(intOf i).toNat)
  case atStart=>obtain⟨ac,b1,LT⟩:=bl;exact⟨0,ac,0,aC,[],by omega,rfl,rfl,by simp,by omega,LT⟩
  case round =>
   obtain⟨j,kk,xc,xo,ws,c9,rfl,b2,aw,da,a⟩:=hrel;clear bl;subst b2;by_cases b3:ws.length<ns.length
   ·rcases F with F|⟨b4,rfl⟩
    ·omega
    have db:p<q:=Nat.lt_trans a.plt a.qge;have b5:wr.cell? ⟨q+1,1,aC⟩=aG (aA xo ws.length xc):=by rw[aF a.b7];rfl
    have b6:wr.frozen? ⟨q+1,1,aC⟩=false:=aQ a.b7 1;have dc:wr.cell? ⟨q,1,aC⟩=aG (aA (aG ⟨b4,0,aC⟩) ns.length ca):=by obtain⟨_,_,_,ax⟩:=a.b6;rw[aF ax];rfl
    have b7:=a.args.cellAt ws.length (by omega);rw[JS ns ws.length b3]at b7;have bm:=a.own;have bn:∀g,(aU xo ws.length xc).ownBlock=aG g->q+2<=g:=fun g b=>(bm.lt g b).1
    have b8:(aG (q+1):Option Nat)≠(aU xo ws.length xc).ownBlock:=fun e=>by have:=bn _ e.symm;omega
    have b9:∀g,(aU xo ws.length xc).ownBlock=aG g->g ∉ [p]:=fun g b e=>by have h1:=bn g b;have dd:=aB.1 e;omega
    have ay:=d.2 ns[ws.length] (aM _);have cc:=fun W aj=>Vw B p kk ns[ws.length] ay.1 ay.2 W aj (by omega)
    have M:=a.rd;have cd:=a.big;have ce:Hid _:=a;have de:ws.length<=3:=by have:=d.1;omega
    obtain⟨i0,H,X,Y,am⟩:=info_parts Jc;generalize ns[ws.length]=t at *;have df:ns.length<=3:=d.1;clear a ay d;generalize cf:ns.length=n at *;go_wp2
    go_region_law (first
     | (refine step_append_lies _ (by rfl) _ _ _ (by rfl) (q+2) 9 i0 (.string ⟨#[]⟩) 1 16 underlying52 H X Y am rfl (by decide) (aA xo ws.length xc) ws.length (strs ws) (by rfl) (cg.alloc _) ⟨w3.heap.size,0,aC⟩ 1 1 [.string u] (by rfl) (by rfl) (World.news_of_block (cs:=#[.string u]) (t:=9) (fr:=(0,0)) (aZ w3 _)) (by simp[Value.oneCell']) (by omega) (by unfold maxLen;omega) (by omega) (by simp;omega) (w3.heap.size+1) (by simp) ?_;intro g4 ch dg ci bp dh di;have bq:=VL az bp b8;have bu:=bq.1;have b1:=bq.2)
     | (go_simp;go_wp2_with (go_at_call 219;refine(cc _ (Ns M 1)).mono ?_;rintro e w3 ⟨u,cj,Z,dj,rfl,ck,cl⟩;have g3:=Nu cl;have dk:=aW cd g3.size;have cg:=AJ.own bm (AJ.ag (S:=[p]) g3 (fun g b=>by cases b;simp)) b9;have a0:=VL ⟨b5,b6⟩ g3 (by simp;omega);have dl:=a0.1;have dm:=a0.2;have az:=Afb (aI #[.string u] 9) a0;have dn:=az.1;have dp:=az.2)))
    all_goals
     have cm:=ce.out.next g3 ck bp ci;go_wp2;go_roundw;case rel =>
      refine⟨ws.length+1,cj,ch,aG ⟨g4,0,aC⟩,ws++[u.data.toList],by omega,by go_num,by simp,?_,by omega,cm⟩;intro x C;rcases bO.1 C with C|C
      ·exact aw x C
      ·rw[aB.1 C,Array.length_toList];exact Z
     case measure=>simp[intOf];omega
   ·have dq:wr.cell? ⟨q,1,aC⟩=aG (aA bo ns.length ca):=by obtain⟨_,_,_,ax⟩:=a.b6;rw[aF ax];rfl
    have bx:wr.cell? ⟨q+1,0,aC⟩=aG (.string rk):=by rw[aF a.b7];rfl
    have bv:wr.cell? ⟨q+1,1,aC⟩=aG (aA xo ws.length xc):=by rw[aF a.b7];rfl
    have au:wr.cell? ⟨w.heap.size,0,aC⟩=aG (.string ⟨#[]⟩):=by rw[aF a.b4];rfl
    have av:wr.cell? ⟨w.heap.size,1,aC⟩=aG (aA aC 0 0):=by rw[aF a.b4];rfl
    have bz:wr.frozen? ⟨w.heap.size,0,aC⟩=false:=aQ a.b4 0;have b0:wr.frozen? ⟨w.heap.size,1,aC⟩=false:=aQ a.b4 1;have ab:=Ab (a.done (k0:=k) (by have:=d.1;omega) aw (by have:=d.1;omega) (.string rk) (aA xo ws.length xc) ba.out);clear a d aw;generalize cf:ns.length=n at *;go_wp2;exact bC (v:=bS #[.string rk,aA xo ws.length xc]) (by simp[bW,results165,go_sem,au,av]) rfl ab.out
