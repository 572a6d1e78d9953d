import Derived.Test.YtpdahhnjhggocaaGreatDoorMu7
open Go.Proofs.Tryz
open Go.Value renaming string->aA,slice->aB,pointer->bA,agg->bI
open Option renaming some->aC,none->aE
open Go.World renaming block_lt_of_cell?->aD,drewN_drewN->aQ,cell?->bE,size_drew->bU
open Go.Obj renaming cells->aF
open List renaming getElem?_cons_zero->aG,getElem?_toArray->aI,getElem?_cons_succ->aJ,length_map->aK,getElem?_eq_some_iff->aL,take_length->aP,take_append_drop->aR,take_append_of_le_length->aS,mem_map->aT,length_take->aU,cons_append->aV,mem_of_mem_take->aW,mem_map_of_mem->aY,mem_singleton->aZ,take_succ_eq_append_getElem->bB,getElem_map->bF,mem_append->bH,findIdx?_eq_none_iff->bJ,drop_eq_getElem_cons->bK,take_of_length_le->bM,length_singleton->bN,map_singleton->bP,length_append->bQ,append_of_mem->bR,append_assoc->bS,any_eq_false->bT,take_append->bV,length_drop->bW,any_eq_true->bX,not_lt_nil->bZ,map_append->b5,map_take->b9
open Go.Ending renaming returned->aH
open Nat renaming le_refl->aM,lt_succ_of_lt->bC,add_assoc->bL,lt_succ_self->bY,min_eq_left->b7,le_trans->cc
open Go.ByteArray renaming toList_eq->aN
open Go.RowKit.Below renaming refl->aO
open ByteArray renaming mk->aX
open And renaming left->bD
open Bool renaming not_eq_true->bG,eq_iff_iff->b6
open Go.IntKind renaming wrap_i64->bO,i64->b8
open Go.Op renaming bytesLess->cd
namespace Go.Proofs.YtpdahhnjhggocaaGreatDoor
open Go.RowKit
set_option maxHeartbeats 16000000
set_option maxRecDepth 100000
variable {w w':World}{cs:Array Value}{v:Value}{B n m:Nat}{ao:Option Addr}
theorem Ca.place{D T:List AO}{r:AO}{key:ByteArray}(h:Ca (D++r::T) key D.length)(a:(r.key.toList==key.toList)=true):(D.length:Int)=placeI ((D++r::T).map AO.I) key:=by
 unfold placeI;unfold Ca at h;have e:((D++r::T).map AO.I).findIdx? (fun p=>p.1.toList==key.toList)=aC D.length:=by
  refine List.findIdx?_eq_some_iff_getElem.2 ⟨by simp,by simpa [AO.I] using a,fun j b=>?_⟩;rw[aS (aM _),aP]at h;have:=h D[j] (List.getElem_mem _);simp only[bF];rw[List.getElem_append_left b];simpa [AO.I] using this
 rw[e]
theorem Ca.no_place{L:List AO}{key:ByteArray}(h:Ca L key L.length):(-1:Int)=placeI (L.map AO.I) key:=by
 unfold placeI;rw[bJ.2];intro p a;unfold Ca at h;rw[aP]at h;obtain⟨r,b,rfl⟩:=aT.1 a;exact h r b
theorem A3{T:TypeId}(j:Nat):(w.alloc (aF cs T)).cell? ⟨w.heap.size,j,aE⟩=cs[j]?:=by
 unfold bE;rw[Al];rfl
theorem XN(rk key:ByteArray)(va b:Value)(many:Bool)(g:Nat)(w:World)(i:∃a n c,va=aB a n c)(j:∃a n c,b=aB a n c)(d:w.cell? ⟨g,0,aE⟩=aC (aA key)):Calls prog 204 #[bI #[aA rk,va,.bool many,b],bA (aC ⟨g,0,aE⟩)] w fun e w'=>e=aH (.bool (rk.toList==key.toList))/\AZ w w':=by
 obtain⟨a,n,c,rfl⟩:=i;obtain⟨a',n',f,rfl⟩:=j;have h:=(AZ.refl w).alloc (aF #[aA rk,aB a n c,.bool many,aB a' n' f] 54);have k:=aD w _ d;have l:(w.alloc (aF #[aA rk,aB a n c,.bool many,aB a' n' f] 54)).cell? ⟨g,0,aE⟩=aC (aA key):=(h.1.cell k).trans d;go_enter func204,ntmps204;go_wp2;go_ret;exact⟨rfl,h⟩
def D6(w:World)(v:Value)(L:List AO):Prop:=Ap w v L.length 4 (L.flatMap AO.cells)/\∀r∈L,(∃a n c,r.va=aB a n c)/\∃a n c,r.vd=aB a n c
theorem AO.len(x:AO):x.cells.length=4:=rfl
theorem D6.V{L:List AO}(h:D6 w v L)(a:Below w.heap.size w w'):D6 w' v L:=⟨h.1.V a,h.2⟩
theorem AX.rin{L:List AO}(h:AX B w v L):D6 w v L:=by
 refine⟨AG (Az.head h),fun r b=>?_⟩;obtain⟨D,T,rfl⟩:=bR b;obtain⟨a,c,d,_⟩:=Ak h.rm.args;obtain⟨a',e,f,_⟩:=Ak h.rm.defs;exact⟨⟨a,_,c,d⟩,⟨a',_,e,f⟩⟩
theorem Ap.rule{cap:Nat}{D T:List AO}{x:AO}(h:Ap w (aB ao m cap) n 4 ((D++x::T).flatMap AO.cells)):∃b off,ao=aC ⟨b,off,aE⟩/\w.cell? ⟨b,off+D.length*4,aE⟩=aC (aA x.key)/\w.cell? ⟨b,off+D.length*4+1,aE⟩=aC x.va/\w.cell? ⟨b,off+D.length*4+2,aE⟩=aC (.bool x.many)/\w.cell? ⟨b,off+D.length*4+3,aE⟩=aC x.vd:=by
 have c:0<n:=by have:=h.1;rw[Bn _ 4 AO.len]at this;simp at this;omega
 obtain⟨b,off,d,a⟩:=h.at c;refine⟨b,off,d,?_,?_,?_,?_⟩
 ·have:=a (D.length*4+0) (aA x.key) (by rw[C8 _ 4 AO.len _ _ _ 0 (by decide)];rfl);simpa using this
 ·have:=a (D.length*4+1) x.va (by rw[C8 _ 4 AO.len _ _ _ 1 (by decide)];rfl);rw[<-bL]at this;exact this
 ·have:=a (D.length*4+2) (.bool x.many) (by rw[C8 _ 4 AO.len _ _ _ 2 (by decide)];rfl);rw[<-bL]at this;exact this
 ·have:=a (D.length*4+3) x.vd (by rw[C8 _ 4 AO.len _ _ _ 3 (by decide)];rfl);rw[<-bL]at this;exact this
theorem Ou{L:List AO}(key:ByteArray)(g:Nat)(c:D6 w v L)(y:L.length<=12)(k:w.cell? ⟨g,0,aE⟩=aC (aA key)):Calls prog 203 #[v,.func (.func 204) #[] #[bA (aC ⟨g,0,aE⟩)]] w fun e w'=>e=aH (.int .i64 (placeI (L.map AO.I) key))/\AZ w w':=by
 obtain⟨ao,z,rfl⟩:=c.1.ae;generalize s:L.length=n at *;go_enter func203,ntmps203;go_wp2;go_loopw [8] (fun i wr=>∃j:Nat,j<=n/\i=.int .i64 (j:Int)/\AZ w wr/\Ca L key j) (fun i _=>n-(intOf i).toNat)
 case atStart=>exact⟨0,by omega,rfl,AZ.refl _,Ca.zero _ _⟩
 case round =>
  obtain⟨j,A,rfl,d,a⟩:=hrel;by_cases B:j<n
  ·obtain⟨D,r,T,rfl,t⟩:=AS L j (by omega);have l:=c.V d.1;obtain⟨b,off,rfl,c0,u,c2,c3⟩:=l.1.rule;have f:=l.2 r (by simp);have p:wr.cell? ⟨g,0,aE⟩=aC (aA key):=(d.1.cell (aD w _ k)).trans k;obtain⟨rk,va,ns,many,x,ds⟩:=r;simp only at c0 u c2 c3 f;subst t;have m:=XN rk key va x many g wr f.1 f.2 p;cases o:(rk.toList==key.toList)
   ·have h:=a.succ o;rw[o]at m;clear a c l k p f;go_wp2_with (go_at_call 204;refine m.mono ?_;rintro e w1 ⟨rfl,q⟩)
    go_roundw;case rel=>exact⟨D.length+1,by omega,by go_num,d.trans q,h⟩
    case measure=>simp[intOf];omega
   ·have h:=Aa (a.place o);rw[o]at m;clear a c l k p f;go_wp2_with (go_at_call 204;refine m.mono ?_;rintro e w1 ⟨rfl,q⟩)
    go_ret;exact⟨Cz h.out,d.trans q⟩
  ·obtain rfl:j=n:=by omega
   have h:=Aa (Ca.no_place (s▸a));clear a c;go_wp2;go_ret;exact⟨Cz h.out,d⟩
theorem Qc{L:List AO}(key:ByteArray)(a:D6 w v L)(c:L.length<=12):Calls prog 149 #[v,aA key] w fun e w'=>e=aH (.int .i64 (placeI (L.map AO.I) key))/\AZ w w':=by
 have b:=(AZ.refl w).alloc (aF #[aA key] 9);have d:=Ou key w.heap.size (a.V b.1) c (A3 0);clear a;go_enter func149,ntmps149;go_wp2_with (go_at_call 203;refine d.mono ?_;rintro e w1 ⟨rfl,f⟩)
 go_ret;exact⟨rfl,b.trans f⟩
variable {W0 W W1:World}{g h k:Nat}{va vb:Value}{L:List AO}
def blockCmp(a b c d:ByteArray):Int:=orI (DV a.toList c.toList) (DV b.toList d.toList)
def lineCmp(R:List Plain)(a b:PLine):Int:=orI (Ac1 (placeI R a.key) (placeI R b.key)) (DV a.ws b.ws)
theorem BC(a b:PBlock):blockCmp a.aa a.name b.aa b.name<0↔blockLt a b=true:=by
 unfold blockCmp orI;rw[Ci];by_cases h:DV a.aa.toList b.aa.toList=0
 ·rw[if_pos h,LG];rw[Fc]at h;rw[h];constructor
  ·exact fun k=>.inr ⟨rfl,k⟩
  ·rintro(k | ⟨_,k⟩)
   ·exact absurd k (FJ.irr _)
   ·exact k
 ·rw[if_neg h,LG];rw[Fc]at h;constructor
  ·exact fun k=>.inl k
  ·rintro(k | ⟨k,_⟩)
   ·exact k
   ·exact absurd k h
theorem Fs(R:List Plain)(a b:PLine):lineCmp R a b<0↔lineLt R a b=true:=by
 unfold lineCmp orI Ac1;rw[CR];by_cases h:placeI R a.key<placeI R b.key
 ·rw[if_pos h,if_neg (by decide)];exact⟨fun _=>.inl h,fun _=>by decide⟩
 ·rw[if_neg h];by_cases k:placeI R b.key<placeI R a.key
  ·rw[if_pos k,if_neg (by decide)];constructor
   ·intro q;omega
   ·rintro(q | ⟨q,_⟩) <;> omega
  ·rw[if_neg k,if_pos rfl,LG];constructor
   ·exact fun q=>.inr ⟨by omega,q⟩
   ·rintro(q | ⟨_,q⟩)
    ·omega
    ·exact q
theorem BO{ds:Array Value}{T U:TypeId}:(∀j:Nat,((w.alloc (aF cs T)).alloc (aF ds U)).cell? ⟨w.heap.size,j,aE⟩=cs[j]?)/\∀j:Nat,((w.alloc (aF cs T)).alloc (aF ds U)).cell? ⟨w.heap.size+1,j,aE⟩=ds[j]?:=by
 constructor
 ·intro j;unfold bE;rw[Cj _ _ _ (by simp),Al];rfl
 ·intro j;unfold bE;have:=Al (w.alloc (aF cs T)) (aF ds U);simp only[World.size_alloc]at this;rw[this];rfl
theorem Dg(c d f h:ByteArray)(la lb ca cb:Nat)(j k:Option Addr)(w:World):Calls prog 51 #[bI #[aA c,aA d,aB j la ca],bI #[aA f,aA h,aB k lb cb]] w fun e w'=>e=aH (.int .i64 (blockCmp c d f h))/\AZ w w':=by
 have l:=((AZ.refl w).alloc (aF #[aA c,aA d,aB j la ca] 46)).alloc (aF #[aA f,aA h,aB k lb cb] 46);have i:=BO (w:=w) (cs:=#[aA c,aA d,aB j la ca]) (ds:=#[aA f,aA h,aB k lb cb]) (T:=46) (U:=46);have c0:=i.1 0;have m:=i.1 1;have n:=i.2 0;have o:=i.2 1;simp only[aI,aG,aJ]at c0 m n o;clear i;have p:=fun a b W=>Nb a b W
 have q:=fun(x y:Int) (W:World)=>K6 x y W.heap.size (W.alloc (aF #[.int .i64 x,.int .i64 y] 3)).drew (A3 (w:=W) 0) (A3 (w:=W) 1)
 go_enter func51,ntmps51;go_wp2;generalize (w.alloc (aF #[aA c,aA d,aB j la ca] 46)).alloc (aF #[aA f,aA h,aB k lb cb] 46)=W at *;generalize w.heap.size=g at *
 go_region_held3 (fun W'=>W'.cell? ⟨g,0,aE⟩=aC (aA c)/\W'.cell? ⟨g,1,aE⟩=aC (aA d)/\W'.cell? ⟨g+1,0,aE⟩=aC (aA f)/\W'.cell? ⟨g+1,1,aE⟩=aC (aA h)) (go_keep)
  (first | (go_at_call 116;refine(p _ _ _).mono ?_;rintro e r ⟨rfl,rfl⟩) | (go_at_call 115;refine(q _ _ _).mono ?_;rintro e r ⟨rfl,rfl⟩))
 all_goals
  go_wp2;go_ret;exact⟨rfl,(l.alloc _).drewN 1⟩
theorem J5{c d:ByteArray}(i:AZ W0 W/\W.cell? ⟨g,0,aE⟩=aC v/\W.cell? ⟨h,0,aE⟩=aC (aA c)/\W.cell? ⟨h,1,aE⟩=aC va/\W.cell? ⟨k,0,aE⟩=aC (aA d)/\W.cell? ⟨k,1,aE⟩=aC vb)(e:AZ W W1):
  AZ W0 W1/\W1.cell? ⟨g,0,aE⟩=aC v/\W1.cell? ⟨h,0,aE⟩=aC (aA c)/\W1.cell? ⟨h,1,aE⟩=aC va/\W1.cell? ⟨k,0,aE⟩=aC (aA d)/\W1.cell? ⟨k,1,aE⟩=aC vb:=by
 obtain⟨j,h1,l,m,n,o⟩:=i;have b:∀ {a:Addr} {u:Value},W.cell? a=aC u->W1.cell? a=aC u:=fun f=>(e.1.cell (aD W _ f)).trans f
 exact⟨j.trans e,b h1,b l,b m,b n,b o⟩
theorem AZ.drew1(w:World):AZ w w.drew:=(AZ.refl w).drewN 1
theorem Iz(a b:PLine)(g:Nat)(q:D6 w v L)(J:L.length<=12)(r:w.cell? ⟨g,0,aE⟩=aC v)(s:Ap w va a.ws.length 1 (strs a.ws))(t:Ap w vb b.ws.length 1 (strs b.ws))(la:a.ws.length<=1048576)(lb:b.ws.length<=1048576):Calls prog 147 #[bI #[aA a.key,va],bI #[aA b.key,vb],bA (aC ⟨g,0,aE⟩)] w fun e w'=>e=aH (.int .i64 (lineCmp (L.map AO.I) a b))/\AZ w w':=by
 obtain⟨c,ca,rfl⟩:=s.ae;obtain⟨d,cb,rfl⟩:=t.ae;obtain⟨j,k,rfl⟩:=q.1.ae;generalize C:a.ws.length=f at *;generalize D:b.ws.length=i at *;generalize K:L.length=l at *;have m:=((AZ.refl w).alloc (aF #[aA a.key,aB c f ca] 115)).alloc (aF #[aA b.key,aB d i cb] 115);have n:=BO (w:=w) (cs:=#[aA a.key,aB c f ca]) (ds:=#[aA b.key,aB d i cb]) (T:=115) (U:=115);have c0:=n.1 0;have u:=n.1 1;have z:=n.2 0;have A:=n.2 1;simp only[aI,aG,aJ]at c0 u z A;clear n;have E:=q.V m.1;have F:=s.V m.1;have G:=t.V m.1;have H:=(m.1.cell (aD w _ r)).trans r;have M:=fun(x y:Int) (W:World)=>K6 x y W.heap.size (W.alloc (aF #[.int .i64 x,.int .i64 y] 3)).drew (A3 (w:=W) 0) (A3 (w:=W) 1)
 have N:=fun(x y:Int) (W:World)=>K6 x y W.heap.size (W.alloc (aF #[.int .i64 x,.int .i64 y] 3)) (A3 (w:=W) 0) (A3 (w:=W) 1)
 have O:=fun(x y:Int) (W:World)=>Nc x y W
 unfold lineCmp;clear q s t r;go_enter func147,ntmps147;go_wp2;generalize (w.alloc (aF #[aA a.key,aB c f ca] 115)).alloc (aF #[aA b.key,aB d i cb] 115)=W at *;generalize w.heap.size=h at *
 have P:∀(key:ByteArray) (W1:World),(AZ W W1/\W1.cell? ⟨g,0,aE⟩=aC (aB j l k)/\W1.cell? ⟨h,0,aE⟩=aC (aA a.key)/\W1.cell? ⟨h,1,aE⟩=aC (aB c f ca)/\W1.cell? ⟨h+1,0,aE⟩=aC (aA b.key)/\W1.cell? ⟨h+1,1,aE⟩=aC (aB d i cb))->Calls prog 149 #[aB j l k,aA key] W1 fun e w'=>e=aH (.int .i64 (placeI (L.map AO.I) key))/\(AZ W w'/\w'.cell? ⟨g,0,aE⟩=aC (aB j l k)/\w'.cell? ⟨h,0,aE⟩=aC (aA a.key)/\w'.cell? ⟨h,1,aE⟩=aC (aB c f ca)/\w'.cell? ⟨h+1,0,aE⟩=aC (aA b.key)/\w'.cell? ⟨h+1,1,aE⟩=aC (aB d i cb)) :=
  fun key W1 o=>(Qc key (E.V o.1.1) (by omega)).mono fun e w' ⟨Q,B⟩=>⟨Q,J5 o B⟩
 have R:∀(W1:World),(AZ W W1/\W1.cell? ⟨g,0,aE⟩=aC (aB j l k)/\W1.cell? ⟨h,0,aE⟩=aC (aA a.key)/\W1.cell? ⟨h,1,aE⟩=aC (aB c f ca)/\W1.cell? ⟨h+1,0,aE⟩=aC (aA b.key)/\W1.cell? ⟨h+1,1,aE⟩=aC (aB d i cb))->Calls prog 150 #[aB c f ca,aB d i cb] W1 fun e w'=>e=aH (.int .i64 (DV a.ws b.ws))/\w'=W1 :=
  fun W1 o=>J0 (C.symm▸F.V o.1.1) (D.symm▸G.V o.1.1) la lb
 have S:AZ W W/\W.cell? ⟨g,0,aE⟩=aC (aB j l k)/\W.cell? ⟨h,0,aE⟩=aC (aA a.key)/\W.cell? ⟨h,1,aE⟩=aC (aB c f ca)/\W.cell? ⟨h+1,0,aE⟩=aC (aA b.key)/\W.cell? ⟨h+1,1,aE⟩=aC (aB d i cb):=⟨AZ.refl _,H,c0,u,z,A⟩;clear E F G C D K la lb J H c0 u z A
 go_region_held3 (fun W'=>AZ W W'/\W'.cell? ⟨g,0,aE⟩=aC (aB j l k)/\W'.cell? ⟨h,0,aE⟩=aC (aA a.key)/\W'.cell? ⟨h,1,aE⟩=aC (aB c f ca)/\W'.cell? ⟨h+1,0,aE⟩=aC (aA b.key)/\W'.cell? ⟨h+1,1,aE⟩=aC (aB d i cb))
  (first | assumption | exact J5 (by assumption) (AZ.drew1 _) | exact J5 (by assumption) ((AZ.refl _).alloc _) | exact J5 (by assumption) (((AZ.refl _).alloc _).drewN 1))
  (first | (go_at_call 149;refine(P _ _ (by assumption)).mono ?_;rintro e p ⟨rfl,V⟩) | (go_at_call 148;refine(O _ _ _).mono ?_;rintro e p ⟨rfl,rfl⟩) | (go_at_call 150;refine(R _ (by assumption)).mono ?_;rintro e p ⟨rfl,rfl⟩) | (go_at_call 115;refine(M _ _ _).mono ?_;rintro e p ⟨rfl,rfl⟩) | (go_at_call 115;refine(N _ _ _).mono ?_;rintro e p ⟨rfl,rfl⟩))
 all_goals
  rename_i I;have B:=m.trans I.1;clear I;go_wp2;go_ret;exact⟨rfl,B⟩
variable {α:Type}{D T bs:List BAt}{y:BAt}{a1 a2 a3 a4:Addr}{v1 v2 v3 v4 vr:Value}{ls:List LAt}
def Ag3{α:Type}(c:α->α->Bool)(ls:List α):Prop:=∀i a b,ls[i]?=aC a->ls[i+1]?=aC b->c b a=false
def Cx{α:Type}(c:α->α->Bool)(ls:List α)(k:Nat):Prop:=∀i,k<=i->∀a b,ls[i]?=aC a->ls[i+1]?=aC b->c b a=false
open Classical in
noncomputable def ET{α:Type}(a:α->α->Bool)(ls:List α):Bool:=decide (Ag3 a ls)
theorem Cx.last(c:α->α->Bool)(ls:List α)(k:Nat)(h:ls.length<=k+1):Cx c ls k:=by
 intro i e a b _ d;have:=(aL.1 d).1;omega
theorem Cx.down{c:α->α->Bool}{ls:List α}{a b:α}(h:Cx c ls (k+1))(g:ls[k]?=aC a)(j:ls[k+1]?=aC b)(l:c b a=false):Cx c ls k:=by
 intro i m x y d f;by_cases e:i=k
 ·subst e;rw[g]at d;rw[j]at f;cases d;cases f;exact l
 ·exact h i (by omega) x y d f
open Classical in
theorem Cx.all{c:α->α->Bool}{ls:List α}(h:Cx c ls 0):true=ET c ls:=by
 unfold ET;rw[decide_eq_true];exact fun i a b d e=>h i (Nat.zero_le _) a b d e
open Classical in
theorem WV{c:α->α->Bool}{ls:List α}{a b:α}(e:ls[k]?=aC a)(f:ls[k+1]?=aC b)(d:c b a=true):false=ET c ls:=by
 unfold ET;rw[decide_eq_false];intro h;rw[h k a b e f]at d;cases d
theorem Qd(L:List α)(k:Nat)(h:k+1<L.length):∃D r s T,L=D++r::s::T/\D.length=k:=by
 obtain⟨D,r,T,rfl,a⟩:=AS L k (by omega)
 match T,h with
 | [],h=>simp at h;omega
 | s::T,_=>exact⟨D,r,s,T,rfl,a⟩
theorem ZG(D T:List α)(r s:α):(D++r::s::T)[D.length]?=aC r/\(D++r::s::T)[D.length+1]?=aC s:=by
 constructor
 ·simp
 ·rw[List.getElem?_append_right (by omega)];simp
theorem Ap.block2{cap:Nat}{x:BAt}(h:Ap w (aB ao m cap) n 3 ((D++x::y::T).flatMap BAt.cells)):∃b off,ao=aC ⟨b,off,aE⟩/\(w.cell? ⟨b,off+D.length*3,aE⟩=aC (aA x.aa)/\w.cell? ⟨b,off+D.length*3+1,aE⟩=aC (aA x.name)/\w.cell? ⟨b,off+D.length*3+2,aE⟩=aC x.v)/\w.cell? ⟨b,off+(D.length+1)*3,aE⟩=aC (aA y.aa)/\w.cell? ⟨b,off+(D.length+1)*3+1,aE⟩=aC (aA y.name)/\w.cell? ⟨b,off+(D.length+1)*3+2,aE⟩=aC y.v:=by
 obtain⟨b,off,rfl,h1⟩:=h.block;have c:Ap w (aB (aC ⟨b,off,aE⟩) m cap) n 3 (((D++[x])++y::T).flatMap BAt.cells):=by rw[bS];exact h
 obtain⟨b',d,e,a⟩:=c.block;cases e
 rw[bQ,bN]at a;exact⟨b,off,rfl,h1,a⟩
theorem FQ{a5 c:Addr}{v5 d:Value}(g:AZ W0 W/\W.cell? a1=aC v1/\W.cell? a2=aC v2/\W.cell? a3=aC v3/\W.cell? a4=aC v4/\W.cell? a5=aC v5/\W.cell? c=aC d)(e:AZ W W1):
  AZ W0 W1/\W1.cell? a1=aC v1/\W1.cell? a2=aC v2/\W1.cell? a3=aC v3/\W1.cell? a4=aC v4/\W1.cell? a5=aC v5/\W1.cell? c=aC d:=by
 obtain⟨h,h1,i,j,k,l,m⟩:=g;have b:∀ {a:Addr} {u:Value},W.cell? a=aC u->W1.cell? a=aC u:=fun f=>(e.1.cell (aD W _ f)).trans f
 exact⟨h.trans e,b h1,b i,b j,b k,b l,b m⟩
theorem KU{c:Int}{B:Bool}(h:c<0↔B=true)(a:B=true):c<0:=h.2 a
theorem J6{c:Int}{B:Bool}(h:c<0↔B=true)(a:B=false):¬c<0:=fun q=>by rw[h.1 q]at a;cases a
theorem K7(b:As w v bs)(Z:bs.length<=1048576):Calls prog 68 #[v,.func (.func 51) #[] #[]] w fun e w'=>e=aH (.bool (ET blockLt (bs.map BAt.I)))/\AZ w w':=by
 obtain⟨ao,aa,rfl⟩:=b.1.ae;generalize M:bs.length=n at *;have u:=Aa M;generalize N:bs.map BAt.I=j;have x:=Aa N;clear M N;go_enter func68,ntmps68;go_wp2;go_loopw [5] (fun i wr=>∃a:Int,-1<=a/\a<(n:Int)/\i=.int .i64 a/\AZ w wr/\Cx blockLt j a.toNat) (fun i _=>(intOf i+1).toNat)
 case atStart=>exact⟨(n:Int)-1,by omega,by omega,by go_num,AZ.refl _,Cx.last _ _ _ (by have:=u.out;rw[<-x.out];simp;omega)⟩
 case round =>
  obtain⟨a,ab,ac,rfl,y,c⟩:=hrel;by_cases ad:0<a
  ·obtain⟨k,rfl⟩:∃k:Nat,a=(k:Int)+1:=⟨(a-1).toNat,by omega⟩;have O:k+1<bs.length:=by have:=u.out;omega
   obtain⟨D,r,s,T,rfl,z⟩:=Qd bs k O;obtain⟨g,off,rfl,⟨A,c2,c3⟩,B,C,o⟩:=(b.V y.1).1.block2;obtain⟨a1,p,P⟩:=(b.2 r (by simp)).1.ae;obtain⟨a2,q,Q⟩:=(b.2 s (by simp)).1.ae;have d:=ZG (D.map BAt.I) (T.map BAt.I) r.I s.I;rw[show D.map BAt.I++r.I::s.I::T.map BAt.I=j from by rw[<-x.out];simp,aK,z]at d;rw[z]at A c2 c3 B C o;have l:=BC s.I r.I;rw[P]at c3;rw[Q]at o;have t:=fun W=>Dg s.aa s.name r.aa r.name s.ls.length r.ls.length q p a2 a1 W
   rw[show blockCmp s.I.aa s.I.name r.I.aa r.I.name=blockCmp s.aa s.name r.aa r.name from rfl]at l;rw[show ((k:Int)+1).toNat=k+1 from by omega]at c;have R:AZ w wr/\wr.cell? ⟨g,off+k*3,aE⟩=aC (aA r.aa)/\wr.cell? ⟨g,off+k*3+1,aE⟩=aC (aA r.name)/\wr.cell? ⟨g,off+k*3+2,aE⟩=aC (aB a1 r.ls.length p)/\wr.cell? ⟨g,off+(k+1)*3,aE⟩=aC (aA s.aa)/\wr.cell? ⟨g,off+(k+1)*3+1,aE⟩=aC (aA s.name)/\wr.cell? ⟨g,off+(k+1)*3+2,aE⟩=aC (aB a2 s.ls.length q):=⟨y,A,c2,c3,B,C,o⟩;have E:blockLt s.I r.I=false->Cx blockLt j k:=fun h=>c.down d.1 d.2 h
   have F:blockLt s.I r.I=true->false=ET blockLt j:=fun h=>WV d.1 d.2 h
   clear d c b O A c2 c3 B C o P Q u x z;generalize r.aa=rk at *;generalize r.name=G at *;generalize r.ls.length=S at *;generalize s.aa=H at *;generalize s.name=I at *;generalize s.ls.length=ns at *;generalize blockCmp H I rk G=U at *;have i0:(0:Int)<=(k:Int):=by omega
   have ae:(k:Int)<(n:Int):=by omega
   have i2:(0:Int)<=(k:Int)+1:=by omega
   have i3:(k:Int)+1<(n:Int):=by omega
   have i4:b8.wrap (k:Int)=(k:Int):=by rw[bO];omega
   have i5:((k:Int)+1).toNat=k+1:=by omega
   cases f:blockLt s.I r.I
   ·have J:=E f;have V:¬U<0:=J6 l f;clear E F l f;go_wp2
    go_region_held3 (fun W'=>AZ w W'/\W'.cell? ⟨g,off+k*3,aE⟩=aC (aA rk)/\W'.cell? ⟨g,off+k*3+1,aE⟩=aC (aA G)/\W'.cell? ⟨g,off+k*3+2,aE⟩=aC (aB a1 S p)/\W'.cell? ⟨g,off+(k+1)*3,aE⟩=aC (aA H)/\W'.cell? ⟨g,off+(k+1)*3+1,aE⟩=aC (aA I)/\W'.cell? ⟨g,off+(k+1)*3+2,aE⟩=aC (aB a2 ns q))
     (first | assumption | exact FQ (by assumption) (AZ.drew1 _) | exact FQ (by assumption) (by assumption))
     (first | (go_at_call 51;refine(t _).mono ?_;rintro e X ⟨rfl,K⟩))
    all_goals
     rename_i m;have L:=m.1;clear m R K t;go_wp2;go_roundw;case rel=>exact⟨(k:Int),by omega,by omega,by go_num,L,J⟩
     case measure=>simp[intOf];omega
   ·have J:=Aa (F f);have V:U<0:=KU l f;clear E F l f;go_wp2
    go_region_held3 (fun W'=>AZ w W'/\W'.cell? ⟨g,off+k*3,aE⟩=aC (aA rk)/\W'.cell? ⟨g,off+k*3+1,aE⟩=aC (aA G)/\W'.cell? ⟨g,off+k*3+2,aE⟩=aC (aB a1 S p)/\W'.cell? ⟨g,off+(k+1)*3,aE⟩=aC (aA H)/\W'.cell? ⟨g,off+(k+1)*3+1,aE⟩=aC (aA I)/\W'.cell? ⟨g,off+(k+1)*3+2,aE⟩=aC (aB a2 ns q))
     (first | assumption | exact FQ (by assumption) (AZ.drew1 _) | exact FQ (by assumption) (by assumption))
     (first | (go_at_call 51;refine(t _).mono ?_;rintro e X ⟨rfl,K⟩))
    all_goals
     rename_i m;have L:=m.1;clear m R K t;go_wp2;go_ret;exact⟨Au J.out,L⟩
  ·have Y:=Aa (show true=ET blockLt j from Cx.all (by rw[show a.toNat=0 from by omega]at c;exact c));clear c b;go_wp2;go_ret;exact⟨Au Y.out,y⟩
theorem Ap.line2{cap:Nat}{D T:List LAt}{x y:LAt}(h:Ap w (aB ao m cap) n 2 ((D++x::y::T).flatMap LAt.cells)):∃b off,ao=aC ⟨b,off,aE⟩/\(w.cell? ⟨b,off+D.length*2,aE⟩=aC (aA x.key)/\w.cell? ⟨b,off+D.length*2+1,aE⟩=aC x.v)/\w.cell? ⟨b,off+(D.length+1)*2,aE⟩=aC (aA y.key)/\w.cell? ⟨b,off+(D.length+1)*2+1,aE⟩=aC y.v:=by
 obtain⟨b,off,rfl,h1⟩:=h.line;have c:Ap w (aB (aC ⟨b,off,aE⟩) m cap) n 2 (((D++[x])++y::T).flatMap LAt.cells):=by rw[bS];exact h
 obtain⟨b',d,e,a⟩:=c.line;cases e
 rw[bQ,bN]at a;exact⟨b,off,rfl,h1,a⟩
theorem EZ(e:AZ W0 W/\W.cell? a1=aC v1/\W.cell? a2=aC v2/\W.cell? a3=aC v3/\W.cell? a4=aC v4)(c:AZ W W1):
  AZ W0 W1/\W1.cell? a1=aC v1/\W1.cell? a2=aC v2/\W1.cell? a3=aC v3/\W1.cell? a4=aC v4:=by
 obtain⟨f,h1,g,h,i⟩:=e;have b:∀ {a:Addr} {u:Value},W.cell? a=aC u->W1.cell? a=aC u:=fun d=>(c.1.cell (aD W _ d)).trans d
 exact⟨f.trans c,b h1,b g,b h,b i⟩
theorem L4{RL:List AO}(m:Nat)(b:An w v ls)(ad:ls.length<=1048576)(o:∀x∈ls,x.ws.length<=1048576)(B:D6 w vr RL)(Q:RL.length<=12)(p:w.cell? ⟨m,0,aE⟩=aC vr):Calls prog 136 #[v,.func (.func 147) #[] #[bA (aC ⟨m,0,aE⟩)]] w fun e w'=>e=aH (.bool (ET (lineLt (RL.map AO.I)) (ls.map LAt.I)))/\AZ w w':=by
 obtain⟨ao,ae,rfl⟩:=b.1.ae;generalize R:ls.length=n at *;have C:=Aa R;generalize S:ls.map LAt.I=j;have E:=Aa S;clear R S;go_enter func136,ntmps136;go_wp2;go_loopw [5] (fun i wr=>∃a:Int,-1<=a/\a<(n:Int)/\i=.int .i64 a/\AZ w wr/\Cx (lineLt (RL.map AO.I)) j a.toNat) (fun i _=>(intOf i+1).toNat)
 case atStart=>exact⟨(n:Int)-1,by omega,by omega,by go_num,AZ.refl _,Cx.last _ _ _ (by have:=C.out;rw[<-E.out];simp;omega)⟩
 case round =>
  obtain⟨a,af,ag,rfl,F,c⟩:=hrel;by_cases ah:0<a
  ·obtain⟨k,rfl⟩:∃k:Nat,a=(k:Int)+1:=⟨(a-1).toNat,by omega⟩;have U:k+1<ls.length:=by have:=C.out;omega
   obtain⟨D,r,s,T,rfl,G⟩:=Qd ls k U;obtain⟨g,off,rfl,⟨H,c2⟩,I,q⟩:=(b.V F.1).1.line2;obtain⟨a1,t,J⟩:=(b.2 r (by simp)).ae;obtain⟨a2,u,K⟩:=(b.2 s (by simp)).ae;have d:=ZG (D.map LAt.I) (T.map LAt.I) r.I s.I;rw[show D.map LAt.I++r.I::s.I::T.map LAt.I=j from by rw[<-E.out];simp,aK,G]at d;rw[G]at H c2 I q;have y:=Fs (RL.map AO.I) s.I r.I;rw[J]at c2;rw[K]at q
   have z:∀W,AZ w W->Calls prog 147 #[bI #[aA s.key,aB a2 s.ws.length u],bI #[aA r.key,aB a1 r.ws.length t],bA (aC ⟨m,0,aE⟩)] W fun e w'=>e=aH (.int .i64 (lineCmp (RL.map AO.I) s.I r.I))/\AZ W w' :=
    fun W A=>Iz s.I r.I m (B.V A.1) Q ((A.1.cell (aD w _ p)).trans p) (K▸(b.2 s (by simp)).V A.1) (J▸(b.2 r (by simp)).V A.1) (o s (by simp)) (o r (by simp))
   rw[show ((k:Int)+1).toNat=k+1 from by omega]at c;have V:AZ w wr/\wr.cell? ⟨g,off+k*2,aE⟩=aC (aA r.key)/\wr.cell? ⟨g,off+k*2+1,aE⟩=aC (aB a1 r.ws.length t)/\wr.cell? ⟨g,off+(k+1)*2,aE⟩=aC (aA s.key)/\wr.cell? ⟨g,off+(k+1)*2+1,aE⟩=aC (aB a2 s.ws.length u):=⟨F,H,c2,I,q⟩;have L:(lineLt (RL.map AO.I)) s.I r.I=false->Cx (lineLt (RL.map AO.I)) j k:=fun h=>c.down d.1 d.2 h
   have M:(lineLt (RL.map AO.I)) s.I r.I=true->false=ET (lineLt (RL.map AO.I)) j:=fun h=>WV d.1 d.2 h
   clear d c b U H c2 I q J K C E G B p o Q;generalize r.key=rk at *;generalize r.ws.length=X at *;generalize s.key=Y at *;generalize s.ws.length=ns at *;generalize lineCmp (RL.map AO.I) s.I r.I=Z at *;have i0:(0:Int)<=(k:Int):=by omega
   have ai:(k:Int)<(n:Int):=by omega
   have i2:(0:Int)<=(k:Int)+1:=by omega
   have i3:(k:Int)+1<(n:Int):=by omega
   have i4:b8.wrap (k:Int)=(k:Int):=by rw[bO];omega
   have i5:((k:Int)+1).toNat=k+1:=by omega
   cases f:(lineLt (RL.map AO.I)) s.I r.I
   ·have N:=L f;have aa:¬Z<0:=J6 y f;clear L M y f;go_wp2
    go_region_held3 (fun W'=>AZ w W'/\W'.cell? ⟨g,off+k*2,aE⟩=aC (aA rk)/\W'.cell? ⟨g,off+k*2+1,aE⟩=aC (aB a1 X t)/\W'.cell? ⟨g,off+(k+1)*2,aE⟩=aC (aA Y)/\W'.cell? ⟨g,off+(k+1)*2+1,aE⟩=aC (aB a2 ns u))
     (first | assumption | exact EZ (by assumption) (AZ.drew1 _) | exact EZ (by assumption) (by assumption))
     (first | (go_at_call 147;refine(z _ (bD (by assumption))).mono ?_;rintro e ab ⟨rfl,O⟩))
    all_goals
     rename_i l;have P:=l.1;clear l V O z;go_wp2;go_roundw;case rel=>exact⟨(k:Int),by omega,by omega,by go_num,P,N⟩
     case measure=>simp[intOf];omega
   ·have N:=Aa (M f);have aa:Z<0:=KU y f;clear L M y f;go_wp2
    go_region_held3 (fun W'=>AZ w W'/\W'.cell? ⟨g,off+k*2,aE⟩=aC (aA rk)/\W'.cell? ⟨g,off+k*2+1,aE⟩=aC (aB a1 X t)/\W'.cell? ⟨g,off+(k+1)*2,aE⟩=aC (aA Y)/\W'.cell? ⟨g,off+(k+1)*2+1,aE⟩=aC (aB a2 ns u))
     (first | assumption | exact EZ (by assumption) (AZ.drew1 _) | exact EZ (by assumption) (by assumption))
     (first | (go_at_call 147;refine(z _ (bD (by assumption))).mono ?_;rintro e ab ⟨rfl,O⟩))
    all_goals
     rename_i l;have P:=l.1;clear l V O z;go_wp2;go_ret;exact⟨Au N.out,P⟩
  ·have ac:=Aa (show true=ET (lineLt (RL.map AO.I)) j from Cx.all (by rw[show a.toNat=0 from by omega]at c;exact c));clear c b B p o;go_wp2;go_ret;exact⟨Au ac.out,F⟩
variable {kind name:ByteArray}{es:List PBlock}
def Cm(bs:List BAt)(kind name:ByteArray)(k:Nat):Prop:=∀b∈bs.take k,(b.aa.toList==kind.toList&&b.name.toList==name.toList)=false
theorem Cm.zero(bs:List BAt)(kind name:ByteArray):Cm bs kind name 0:=by simp[Cm]
theorem Cm.succ{r:BAt}(h:Cm (D++r::T) kind name D.length)(b:(r.aa.toList==kind.toList&&r.name.toList==name.toList)=false):Cm (D++r::T) kind name (D.length+1):=by
 unfold Cm at *;rw[aS (aM _),aP]at h;rw[bV,bM (by omega),show D.length+1-D.length=1 from by omega];intro s a;simp only[List.take_succ_cons,List.take_zero,bH,aZ]at a;rcases a with a | rfl
 ·exact h s a
 ·exact b
theorem Ni(h:(rulesOf kind).length=0):(3:Int)=headFault es kind name:=by unfold headFault;rw[if_pos h]
theorem Nj(h:¬(rulesOf kind).length=0)(a:nameB name.data.toList=false):(4:Int)=headFault es kind name:=by unfold headFault;rw[if_neg h,if_pos a]
theorem L6(h:¬(rulesOf kind).length=0)(a:nameB name.data.toList=true){o:PBlock}(b:o∈es)(c:(o.aa.toList==kind.toList&&o.name.toList==name.toList)=true):(9:Int)=headFault es kind name:=by
 unfold headFault;rw[if_neg h,if_neg (by simp[a]),if_pos];rw[bX];exact⟨o,b,c⟩
theorem Cm.fault(h:¬(rulesOf kind).length=0)(c:nameB name.data.toList=true)(a:Cm bs kind name bs.length):(if 60<=bs.length then (10:Int) else 0)=headFault (bs.map BAt.I) kind name:=by
 unfold Cm at a;rw[aP]at a;have d:(bs.map BAt.I).any (fun o=>o.aa.toList==kind.toList&&o.name.toList==name.toList)=false:=by
  rw[bT];intro o e;obtain⟨b,f,rfl⟩:=aT.1 e;rw[show (b.I.aa.toList==kind.toList&&b.I.name.toList==name.toList)=false from a b f];decide
 unfold headFault
 symm
 rw[if_neg h,if_neg (by simp[c]),d,if_neg (by decide),aK]
theorem Gh(kind name:ByteArray)(f:As w v bs)(ad:bs.length<=1048576)(U:name.size<=1048576):Calls prog 66 #[v,aA kind,aA name] w fun e w'=>e=aH (.int .i64 (headFault (bs.map BAt.I) kind name))/\Below w.heap.size w w':=by
 obtain⟨ao,ae,rfl⟩:=f.1.ae;generalize J:bs.map BAt.I=k;have K:=Aa J;generalize M:bs.length=n at *;have B:=Aa M;clear M J;have p:=Cr kind w;have s:=fun W=>MG name W U
 by_cases a:(rulesOf kind).length=0
 ·have C:=Aa (Ni (es:=k) (name:=name) a);generalize headFault k kind name=F at *;go_enter func66,ntmps66;go_wp2_with (go_at_call 29;refine p.mono ?_)
  rintro e w1 ⟨vr,L,rfl,c,d,t⟩;obtain⟨N,O,rfl,_⟩:=Ak (show w1.ownsRow w.heap.size 54 4 vr L.length (L.flatMap AO.cells) from Az.head d);have E:L.length=0:=by rw[<-c,aK]at a;exact a
  generalize L.length=m at *;subst E;clear p d c a f;go_wp2;go_ret;exact⟨Cz C.out,t⟩
 have af:Hid (¬(rulesOf kind).length=0):=Aa a;cases q:nameB name.data.toList
 ·have C:=Aa (Nj (es:=k) a q);rw[q]at s;generalize headFault k kind name=F at *;go_enter func66,ntmps66;go_wp2_with (go_at_call 29;refine p.mono ?_)
  rintro e w1 ⟨vr,L,rfl,c,d,t⟩;obtain⟨N,O,rfl,_⟩:=Ak (show w1.ownsRow w.heap.size 54 4 vr L.length (L.flatMap AO.cells) from Az.head d);have E:¬L.length=0:=by rw[<-c,aK]at a;exact a
  generalize L.length=m at *;have V:((m:Int)==0)=false:=by rw[beq_eq_false_iff_ne];omega
  clear p d c a f;go_wp2_with (go_at_call 134;refine(s _).mono ?_;rintro e w ⟨rfl,rfl⟩)
  go_ret;exact⟨Cz C.out,t⟩
 ·rw[q]at s;have z:=fun(h:Cm bs kind name bs.length)=>Cm.fault a q h
  have G:=fun(o:PBlock) (X:o∈k) (Y:(o.aa.toList==kind.toList&&o.name.toList==name.toList)=true)=>L6 a q X Y
  rw[K.out]at z;generalize headFault k kind name=F at *;go_enter func66,ntmps66;go_wp2_with (go_at_call 29;refine p.mono ?_)
  rintro e w1 ⟨vr,L,rfl,c,d,t⟩;obtain⟨N,O,rfl,_⟩:=Ak (show w1.ownsRow w.heap.size 54 4 vr L.length (L.flatMap AO.cells) from Az.head d);have E:¬L.length=0:=by rw[<-c,aK]at a;exact a
  generalize L.length=m at *;have V:((m:Int)==0)=false:=by rw[beq_eq_false_iff_ne];omega
  clear p d c a q;go_wp2_with (go_at_call 134;refine(s _).mono ?_;rintro e w1 ⟨rfl,rfl⟩)
  clear s;go_loopw [18] (fun i wr=>∃j:Nat,j<=n/\i=.int .i64 (j:Int)/\Below w.heap.size w wr/\Cm bs kind name j) (fun i _=>n-(intOf i).toNat)
  case atStart=>exact⟨0,by omega,rfl,t,Cm.zero _ _ _⟩
  case round =>
   obtain⟨j,ag,rfl,u,A⟩:=hrel;by_cases ah:j<n
   ·obtain⟨D,r,T,rfl,Z⟩:=AS bs j (by have:=B.out;omega);obtain⟨g,off,rfl,ai,c2,c3⟩:=(f.V u).1.block;obtain⟨a1,aa,ab⟩:=(f.2 r (by simp)).1.ae;have P:r.I∈k:=by rw[<-K.out];simp
    have x:=G r.I P;rw[show r.I.aa=r.aa from rfl,show r.I.name=r.name from rfl]at x;rw[ab]at c3;subst Z;have y:=fun h=>A.succ (r:=r) h
    generalize r.ls.length=ac at *;generalize r.aa=rk at *;generalize r.name=Q at *;clear A f z G P;have H:=u.alloc u.size (aF #[aA rk,aA Q,aB a1 ac aa] 46);cases I:(rk.toList==kind.toList)
    ·have b:=y (by rw[I];rfl);clear y x;go_wp2;go_roundw;case rel=>exact⟨D.length+1,by omega,by go_num,H,b⟩
     case measure=>simp[intOf];omega
    ·cases R:(Q.toList==name.toList)
     ·have b:=y (by rw[I,R];rfl);clear y x;go_wp2;go_roundw;case rel=>exact⟨D.length+1,by omega,by go_num,H,b⟩
      case measure=>simp[intOf];omega
     ·have b:=Aa (x (by rw[I,R];rfl));clear y x;go_wp2;go_ret;exact⟨Cz b.out,H⟩
   ·obtain rfl:j=n:=by omega
    have l:=z (by rw[B.out];exact A);rw[B.out]at l;clear A f z G;by_cases S:60<=j
    ·rw[if_pos S]at l;have b:=Aa l;clear l;go_wp2;go_ret;exact⟨Cz b.out,u⟩
    ·rw[if_neg S]at l;have b:=Aa l;clear l;go_wp2;go_ret;exact⟨Cz b.out,u⟩
variable {ys:List (List UInt8)}{ca cb c:Nat}{bo:Option Addr}{many:Bool}{R:List Plain}{vl:Value}
def Cp(xs ys:List (List UInt8))(k:Nat):Prop:=xs.take k=ys.take k
theorem Cp.zero(xs ys:List (List UInt8)):Cp xs ys 0:=by simp[Cp]
theorem Cp.succ{xs:List (List UInt8)}(h:Cp xs ys k)(h1:k<xs.length)(a:k<ys.length)(e:(xs[k]==ys[k])=true):Cp xs ys (k+1):=by
 unfold Cp at *;rw[bB h1,bB a,h,beq_iff_eq.1 e]
theorem ZI{xs:List (List UInt8)}(h1:k<xs.length)(a:k<ys.length)(e:(xs[k]==ys[k])=false):false=decide (xs=ys):=by
 rw[decide_eq_false];intro h;subst h;simp at e
theorem Cp.all{xs:List (List UInt8)}(h:Cp xs ys xs.length)(a:xs.length=ys.length):true=decide (xs=ys):=by
 unfold Cp at h;rw[decide_eq_true];rw[aP]at h;rw[h,a,aP]
theorem EL{xs:List (List UInt8)}(h1:Ap w (aB ao n ca) xs.length 1 (strs xs))(c:Ap w (aB bo m cb) ys.length 1 (strs ys))(t:n<=1048576)(u:m<=1048576):Calls prog 127 #[aB ao n ca,aB bo m cb] w fun e w'=>e=aH (.bool (decide (xs=ys)))/\∃q,w'=w.drewN q:=by
 have f:=Aa (show n=xs.length by obtain⟨_,_,_,e,_⟩:=h1;cases e;rfl);have l:=Aa (show m=ys.length by obtain⟨_,_,_,e,_⟩:=c;cases e;rfl);by_cases r:n=m
 ·subst r;have s:((n:Int) != (n:Int))=false:=by simp
  go_enter func127,ntmps127;go_wp2;go_loopw [13] (fun i wr=>∃k q:Nat,k<=n/\i=.int .i64 (k:Int)/\wr=w.drewN q/\Cp xs ys k) (fun i _=>n-(intOf i).toNat)
  case atStart=>exact⟨0,0,by omega,rfl,rfl,Cp.zero _ _⟩
  case round =>
   obtain⟨k,q,v,rfl,rfl,d⟩:=hrel;by_cases z:k<n
   ·have o:k<xs.length:=by have:=f.out;omega
    have p:k<ys.length:=by have:=l.out;omega
    obtain⟨b,off,rfl,A⟩:=h1.word k o;obtain⟨B,C,rfl,c2⟩:=c.word k p;have g:(aX xs[k].toArray).toList=xs[k]:=by rw[aN]
    have h:(aX ys[k].toArray).toList=ys[k]:=by rw[aN]
    cases j:(xs[k]==ys[k])
    ·have a:=Aa (ZI o p j);rw[<-g,<-h]at j;generalize (⟨xs[k].toArray⟩:ByteArray)=x at *;generalize (⟨ys[k].toArray⟩:ByteArray)=y at *;clear d h1 c g h;go_wp2;go_quiet (fail)
     go_wp2;go_ret;exact⟨Au a.out,_,by first | rfl | exact aQ _ _ _⟩
    ·have a:=d.succ o p j;rw[<-g,<-h]at j;generalize (⟨xs[k].toArray⟩:ByteArray)=x at *;generalize (⟨ys[k].toArray⟩:ByteArray)=y at *;clear d h1 c g h;go_wp2;go_quiet (fail)
     go_wp2;go_roundw;case rel=>exact⟨k+1,_,by omega,by go_num,by first | rfl | exact aQ _ _ _,a⟩
     case measure=>simp[intOf];omega
   ·obtain rfl:k=n:=by omega
    have a:=Aa (Cp.all (f.out▸d) (f.out.symm.trans l.out));clear d h1 c;go_wp2;go_ret;exact⟨Au a.out,q,rfl⟩
 ·have s:((n:Int) != (m:Int))=true:=by rw[bne_iff_ne];omega
  have a:=Aa (show false=decide (xs=ys) by rw[decide_eq_false];rintro rfl;exact r (f.out.trans l.out.symm));clear h1 c;go_enter func127,ntmps127;go_wp2;go_ret;exact⟨Au a.out,0,rfl⟩
def Er(many:Bool)(es:List LAt)(a:PLine)(k c:Nat):Prop:=c=keyN ((es.take k).map LAt.I) a.key/\∀o∈es.take k,(o.key.toList==a.key.toList&&(!many || decide (o.ws=a.ws)))=false
theorem Er.zero(many:Bool)(es:List LAt)(a:PLine):Er many es a 0 0:=⟨by simp[keyN],by simp⟩
theorem BG(D T:List α)(r:α):(D++r::T).take (D.length+1)=D++[r]:=by
 rw[bV,bM (by omega),show D.length+1-D.length=1 from by omega];rfl
theorem Bk(D T:List α):(D++T).take D.length=D:=by
 rw[aS (aM _),aP]
theorem Er.other{D T:List LAt}{r:LAt}{a:PLine}(h:Er many (D++r::T) a D.length c)(d:(r.key.toList==a.key.toList)=false):Er many (D++r::T) a (D.length+1) c:=by
 obtain⟨h1,f⟩:=h;rw[Bk]at h1 f;refine⟨?_,?_⟩
 ·rw[BG,b5,Dm,<-h1,bP,Hk,if_neg]
  ·rfl
  ·intro e;rw[show r.I.key=r.key from rfl]at e;rw[e]at d;simp at d
 ·rw[BG];intro o b;rcases bH.1 b with b | b
  ·exact f o b
  ·rw[aZ.1 b,d];rfl
theorem Er.count{D T:List LAt}{r:LAt}{a:PLine}(h:Er many (D++r::T) a D.length c)(d:(r.key.toList==a.key.toList)=true)(f:many=true)(g:decide (r.ws=a.ws)=false):Er many (D++r::T) a (D.length+1) (c+1):=by
 obtain⟨h1,e⟩:=h;rw[Bk]at h1 e;refine⟨?_,?_⟩
 ·rw[BG,b5,Dm,<-h1,bP,Hk,if_pos];exact toList_inj (show r.key.toList=a.key.toList by simpa using d)
 ·rw[BG];intro o b;rcases bH.1 b with b | b
  ·exact e o b
  ·rw[aZ.1 b,d,f,g];rfl
theorem Vb{p:Plain}{D T:List LAt}{r:LAt}{a:PLine}(b:Bt R a.key=aC p)(c:BD p.2.1 a.ws=true)(d:(r.key.toList==a.key.toList)=true)(e:(!p.2.2.1 || decide (r.ws=a.ws))=true):(6:Int)=lineFault R ((D++r::T).map LAt.I) a:=by
 have f:Dj R a.key=p.2.2.1:=by unfold Dj;rw[b]
 unfold lineFault;rw[if_neg (by rw[b];simp),if_neg (by rw[EA _ b,c];simp),if_pos];rw[bX];refine⟨r.I,by simp,?_⟩;rw[f,show r.I.key=r.key from rfl,show r.I.ws=r.ws from rfl,d,e];rfl
theorem Er.fault{p:Plain}{es:List LAt}{a:PLine}(h:Er p.2.2.1 es a es.length c)(d:Bt R a.key=aC p)(f:BD p.2.1 a.ws=true):(if 10<=c then (10:Int) else 0)=lineFault R (es.map LAt.I) a:=by
 obtain⟨h1,e⟩:=h;rw[aP]at h1 e;have g:Dj R a.key=p.2.2.1:=by unfold Dj;rw[d]
 have i:(es.map LAt.I).any (fun o=>o.key.toList==a.key.toList&&(!Dj R a.key || decide (o.ws=a.ws)))=false:=by
  rw[bT];intro o j;obtain⟨b,k,rfl⟩:=aT.1 j;rw[g,show (b.I.key.toList==a.key.toList&&(!p.2.2.1 || decide (b.I.ws=a.ws)))=false from e b k];decide
 unfold lineFault
 symm
 rw[if_neg (by rw[d];simp),if_neg (by rw[EA _ d,f];simp),i,if_neg (by decide),h1]
theorem Ov{es:List PLine}{a:PLine}(b:Bt R a.key=aE):(5:Int)=lineFault R es a:=by unfold lineFault;rw[if_pos b]
theorem Nk{p:Plain}{es:List PLine}{a:PLine}(b:Bt R a.key=aC p)(c:BD p.2.1 a.ws=false):(7:Int)=lineFault R es a:=by
 unfold lineFault;rw[if_neg (by rw[b];simp),if_pos (by rw[EA _ b,c])]
theorem Ig{T:TypeId}(a:Below (w.heap.size+1) (w.alloc (aF cs T)) w')(j:Nat):w'.cell? ⟨w.heap.size,j,aE⟩=cs[j]?:=by
 unfold bE;rw[show w'.heap[w.heap.size]?=aC (aF cs T (0,0)) from(a.block _ (by omega)).trans (Al _ _)];rfl
theorem EE(w:World)(o:Obj):(w.alloc o).heap.size=w.heap.size+1:=by simp
theorem I5{az:Value}{es:List LAt}(a:PLine)(aj:AX B w vr L)(X:UT (L.map AO.I))(n:An w vl es)(bp:es.length<=1048576)(G:∀x∈es,x.ws.length<=1048576)(o:Ap w az a.ws.length 1 (strs a.ws))(a0:a.ws.length<=1048576)(H:∀x∈a.ws,x.length<=1048576)(ak:BJ w):
  Calls prog 135 #[vr,vl,bI #[aA a.key,az]] w fun e w'=>e=aH (.int .i64 (lineFault (L.map AO.I) (es.map LAt.I) a))/\Below w.heap.size w w':=by
 obtain⟨I,J,rfl⟩:=o.ae;obtain⟨bq,br,rfl⟩:=n.1.ae;have be:L.length<=12:=by have:=X.1;rwa [aK]at this
 have b0:Below w.heap.size w (w.alloc (aF #[aA a.key,aB I a.ws.length J] 115)):=(aO _ _).alloc (aM _) _;have Y:AX B (w.alloc (aF #[aA a.key,aB I a.ws.length J] 115)) vr L:=Az.V aj b0;have al:=J4 a.key Y be;have a1:=A3 (w:=w) (cs:=#[aA a.key,aB I a.ws.length J]) (T:=115);generalize bf:a.ws.length=nw at *;generalize a2:es.length=Z at *;generalize a3:lineFault (L.map AO.I) (es.map LAt.I) a=F;have K:=Aa a3;have a4:=Aa a2;clear a3 a2;go_enter func135,ntmps135;go_wp2_with (go_at_call 93;refine al.mono ?_)
 rintro e w2 ⟨v,⟨s,rfl⟩ | ⟨r,a5,s,rfl⟩⟩
 ·have b:=Aa ((Ov (es:=es.map LAt.I) s).trans K.out);have d:Below w.heap.size w (w2.alloc (aF #[aA ⟨#[]⟩,aB aE 0 0,.bool false,aB aE 0 0] 54)):=(b0.trans (v.mono (by simp))).alloc (cc b0.size v.size) _;clear al aj s X n o ak Y G H a1;go_wp2;go_ret;exact⟨Cz b.out,d⟩
 ·obtain⟨D,T,rfl⟩:=bR a5;have am:=(AX.rm Y).V v;have o1:=am.args;have o2:=am.defs;have M:=X.2 r.I (by simp);have aa:=fun h=>(Nk (es:=es.map LAt.I) s h).trans K.out
  have ab:=fun k y (x:LAt) (e:es=k++x::y) f l an=>(Vb (R:=(D++r::T).map AO.I) (D:=k) (T:=y) (r:=x) s f l an).trans (e▸K.out)
  have ac:=fun c (h:Er r.I.2.2.1 es a es.length c) f=>(h.fault s f).trans K.out
  obtain⟨rk,va,ns,many,bs,ds⟩:=r;simp only[AO.I]at o1 o2 M aa ab ac;generalize bt:ns.length=p at o1 M;generalize bu:ds.length=q at o2;obtain⟨bo,ca,rfl,_⟩:=Ak o1;obtain⟨z,cb,rfl,_⟩:=Ak o2;have ad:Below (w.heap.size+1) (w.alloc (aF #[aA a.key,aB I nw J] 115)) w2:=by rw[<-EE];exact v
  have a6:Below w.heap.size w w2:=b0.trans (v.mono (by simp));have ae:w.heap.size<w2.heap.size:=by have:=ad.size;rw[EE]at this;omega
  have d:=a6.alloc a6.size (aF #[aA rk,aB bo p ca,.bool many,aB z q cb] 54);have g3:Below w2.heap.size w2 (w2.alloc (aF #[aA rk,aB bo p ca,.bool many,aB z q cb] 54)):=(aO _ _).alloc (aM _) _;have ao:=(g3.cell (p:=⟨w.heap.size,0,aE⟩) ae).trans (Ig ad 0);have ap:=(g3.cell (p:=⟨w.heap.size,1,aE⟩) ae).trans (Ig ad 1);have aq:=A3 (w:=w2) (cs:=#[aA rk,aB bo p ca,.bool many,aB z q cb]) (T:=54) 2;have af:=EE w2 (aF #[aA rk,aB bo p ca,.bool many,aB z q cb] 54);simp only[aI,aG,aJ]at ao ap aq;have N:=Oo (key:=rk) (many:=many) (bo:=z) (m:=q) (cb:=cb) (o1.alloc (aF #[aA rk,aB bo p ca,.bool many,aB z q cb] 54)) (o.V d) (by have:=M.1;omega) a0 M.2 H (ak.V d);clear al aj am s X ak M o1 o2 a5 Y a1 g3 v ad K;cases f:BD ns a.ws
  ·have b:=Aa (aa f);rw[f]at N;clear aa ab ac n o G H;go_wp2_with (go_at_call 180;refine N.mono ?_;rintro e O ⟨rfl,t⟩)
   go_ret;exact⟨Cz b.out,d.trans (t.mono d.size)⟩
  ·have ar:=fun k y (x:LAt) e l an=>ab k y x e f l an
   have au:=fun c h=>ac c h f
   rw[f]at N;clear aa ab ac;go_wp2_with (go_at_call 180;refine N.mono ?_;rintro e O ⟨rfl,t⟩)
   clear N;have a7:=d.trans (t.mono d.size);have ag:=(t.cell (p:=⟨w.heap.size,0,aE⟩) (by rw[af];exact bC ae)).trans ao;have av:=(t.cell (p:=⟨w.heap.size,1,aE⟩) (by rw[af];exact bC ae)).trans ap;have ah:=(t.cell (p:=⟨w2.heap.size,2,aE⟩) (by rw[af];exact bY _)).trans aq;clear ao ap aq af d t;go_loopw [9,28] (fun sc i wr=>∃j c:Nat,j<=Z/\c<=j/\i=.int .i64 (j:Int)/\sc=.int .i64 (c:Int)/\Below O.heap.size O wr/\Er many es a j c) (fun _ i _=>Z-(intOf i).toNat)
   case atStart=>exact⟨0,0,by omega,by omega,rfl,rfl,aO _ _,Er.zero _ _ _⟩
   case round =>
    obtain⟨j,c,bv,bw,rfl,rfl,aw,P⟩:=hrel;have u:=a7.trans (aw.mono a7.size);by_cases bx:j<Z
    ·obtain⟨k,x,y,rfl,bg⟩:=AS es j (by have:=a4.out;omega);obtain⟨g,off,rfl,bz,c2⟩:=(n.V u).1.line;have Q:=(n.V u).2 x (by simp);have bh:=G x (by simp);obtain⟨bi,bj,bk⟩:=Q.ae;have a8:=o.V u;unfold BL at Q;rw[bk]at Q c2;have A:=ar k y x rfl;have ax:=aD O _ ag;have a9:=aD O _ ah;have S:Below wr.heap.size wr (wr.alloc (aF #[aA x.key,aB bi x.ws.length bj] 115)):=(aO _ _).alloc (aM _) _;have ba:=u.trans (S.mono u.size);have U:=aw.trans (S.mono aw.size);have b1:=(U.cell (p:=⟨w.heap.size,0,aE⟩) ax).trans ag;have b2:=(U.cell (p:=⟨w.heap.size,1,aE⟩) ax).trans av;have b3:=(U.cell (p:=⟨w2.heap.size,2,aE⟩) a9).trans ah;have bb:=Q.V S;have bc:=a8.V S;subst bg;have V:=fun h=>P.other (r:=x) h
     have W:=fun h1 bl bm=>P.count (r:=x) h1 bl bm
     have C:=EL bb (show Ap _ (aB I nw J) a.ws.length 1 (strs a.ws) by rw[bf];exact bc) bh a0;clear P ar au n G o H a8 bc Q bb ag av ah ax a9 S;generalize x.ws.length=b4 at *;generalize x.key=xk at *;cases l:(xk.toList==a.key.toList)
     ·have b:=V l;clear V W C A;go_wp2;go_roundw;case rel=>exact⟨k.length+1,c,by omega,by omega,by go_num,rfl,U,b⟩
      case measure=>simp[intOf];omega
     ·cases many
      ·have b:=Aa (A l rfl);clear V W C A;go_wp2;go_ret;exact⟨Cz b.out,ba⟩
      ·cases ai:decide (x.ws=a.ws)
       ·have b:=W l rfl ai;rw[ai]at C;clear V W A;go_wp2_with (go_at_call 127;refine C.mono ?_;rintro e bn ⟨rfl,ay,rfl⟩)
        go_roundw;case rel=>exact⟨k.length+1,c+1,by omega,by omega,by go_num,by go_num,below_drewN U ay,b⟩
        case measure=>simp[intOf];omega
       ·have b:=Aa (A l (by rw[ai];rfl));rw[ai]at C;clear V W A;go_wp2_with (go_at_call 127;refine C.mono ?_;rintro e bn ⟨rfl,ay,rfl⟩)
        go_ret;exact⟨Cz b.out,below_drewN ba ay⟩
    ·obtain rfl:j=Z:=by omega
     have E:=au c (by rw[a4.out];exact P);clear P ar au n G o H ag av ah;by_cases bd:10<=c
     ·rw[if_pos bd]at E;have b:=Aa E;clear E;go_wp2;go_ret;exact⟨Cz b.out,u⟩
     ·rw[if_neg bd]at E;have b:=Aa E;clear E;go_wp2;go_ret;exact⟨Cz b.out,u⟩
variable {w0:World}
def Gi(R:List Plain)(ls:List PLine)(k:Nat):Prop:=∀i a,i<k->ls[i]?=aC a->lineFault R (ls.take i) a=0
theorem Gi.zero(R:List Plain)(ls:List PLine):Gi R ls 0:=fun _ _ h=>by omega
theorem Gi.succ{ls:List PLine}{a:PLine}(h:Gi R ls k)(d:ls[k]?=aC a)(f:lineFault R (ls.take k) a=0):Gi R ls (k+1):=by
 intro i b g c;by_cases e:i=k
 ·subst e;rw[d]at c;cases c;exact f
 ·exact h i b (by omega) c
theorem Ac3{ls:List PLine}{a:PLine}(b:ls[k]?=aC a)(c:lineFault R (ls.take k) a≠0):false=linesB R ls:=by
 rw[eq_comm,<-bG,Bs];exact fun h=>c ((DW h).1 k a b)
open Classical in
theorem Gi.all{ls:List PLine}(h:Gi R ls ls.length):ET (lineLt R) ls=linesB R ls:=by
 rw[b6,Bs];unfold ET;rw[decide_eq_true_iff];constructor
 ·intro c;exact PT (fun i a b=>h i a (aL.1 b).1 b) c
 ·exact fun d=>(DW d).2
theorem An.take{cap:Nat}(h:An w (aB ao n cap) ls)(k:Nat)(a:k<=ls.length):An w (aB ao k cap) (ls.take k):=by
 have b:n=ls.length:=by obtain⟨_,_,_,e,_⟩:=h.1;cases e;rfl
 subst b;refine⟨?_,fun x c=>h.2 x (aW c)⟩;have:=h.1.take k a;rw[Pp _ 2 LAt.len]at this;rw[aU,b7 a];exact this
theorem As.take{cap:Nat}(h:As w (aB ao n cap) bs)(k:Nat)(a:k<=bs.length):As w (aB ao k cap) (bs.take k):=by
 have b:n=bs.length:=by obtain⟨_,_,_,e,_⟩:=h.1;cases e;rfl
 subst b;refine⟨?_,fun x c=>h.2 x (aW c)⟩;have:=h.1.take k a;rw[Pp _ 3 BAt.len]at this;rw[aU,b7 a];exact this
def Ah(ls:List LAt):Prop:=ls.length<=1048576/\∀x∈ls,x.ws.length<=1048576/\∀y∈x.ws,y.length<=1048576
def Ax(bs:List BAt):Prop:=bs.length<=1048576/\∀b∈bs,b.name.size<=1048576/\Ah b.ls
theorem CX(b:∃a n c,v=aB a n c)(w:World):Calls prog 75 #[v] w fun e w'=>e=aH (.func (.func 147) #[] #[bA (aC ⟨w.heap.size,0,aE⟩)])/\w'=w.alloc (aF #[v] 47):=by
 obtain⟨a,n,c,rfl⟩:=b;go_enter func75,ntmps75;go_wp2;go_ret;exact⟨rfl,rfl⟩
theorem Fv(kind name:ByteArray)(o:An w vl ls)(f:Ah ls)(U:BJ w):Calls prog 67 #[bI #[aA kind,aA name,vl]] w fun e w'=>e=aH (.bool (linesB (rulesOf kind) (ls.map LAt.I)))/\Below w.heap.size w w':=by
 obtain⟨q,b,rfl⟩:=o.1.ae;have ay:=o.1.cap;have bb:=f.1;have b0:Below w.heap.size w (w.alloc (aF #[aA kind,aA name,aB q ls.length b] 46)):=(aO _ _).alloc (aM _) _;have az:=A3 (w:=w) (cs:=#[aA kind,aA name,aB q ls.length b]) (T:=46);have ak:=Cr kind (w.alloc (aF #[aA kind,aA name,aB q ls.length b] 46));have K:=Bf kind;generalize al:ls.length=n at *;generalize am:ls.map LAt.I=c;have r:=Aa am;have k:=Aa al;clear am al;have an:c.length=n:=by rw[<-r.out,aK,k.out]
 have V:=Aa an;clear an;generalize rulesOf kind=R at *;go_enter func67,ntmps67;go_wp2_with (go_at_call 29;refine ak.mono ?_)
 rintro e w1 ⟨vr,L,rfl,s,B,X⟩;clear ak;have Y:Below (w.heap.size+1) (w.alloc (aF #[aA kind,aA name,aB q n b] 46)) w1:=by rw[<-EE];exact X
 have ao:Below w.heap.size w w1:=b0.trans (X.mono (by simp));have Z:=Ig Y 0;have aa:=Ig Y 2;simp only[aI,aG,aJ]at Z aa;clear az X Y b0;have a0:=(AX.rin B).1.ae;obtain⟨M,N,rfl⟩:=a0;have a1:=Aa (rfl:L.length=L.length);generalize ap:L.length=m at *;have bc:=Aa ap;clear ap a1;go_wp2;go_loopw [12] (fun i wr=>∃j:Nat,j<=n/\i=.int .i64 (j:Int)/\Below w1.heap.size w1 wr/\Gi R c j) (fun i _=>n-(intOf i).toNat)
 case atStart=>exact⟨0,by omega,rfl,aO _ _,Gi.zero _ _⟩
 case round =>
  obtain⟨j,bd,rfl,t,O⟩:=hrel;have d:=ao.trans (t.mono ao.size);have a2:=aD w1 _ aa;have P:=(t.cell (p:=⟨w.heap.size,2,aE⟩) a2).trans aa;have aq:=aD wr _ P;by_cases be:j<n
  ·obtain⟨D,x,T,Q,ar⟩:=AS ls j (by have:=k.out;omega);have C:=o.V d;have ab:=C;rw[Q]at ab;obtain⟨g,off,rfl,a3,c2⟩:=ab.1.line;have ac:x∈ls:=by rw[Q];simp
   obtain⟨u,z,ad⟩:=(C.2 x ac).ae;rw[ar]at a3 c2;rw[ad]at c2;have ae:c[j]?=aC x.I:=by rw[<-r.out,Q,<-ar];simp
   have au:(ls.take j).map LAt.I=c.take j:=by rw[<-r.out,b9]
   have af:=fun h=>O.succ ae h
   have ag:=fun h=>Ac3 (R:=R) ae h
   have E:∀(W:World),Below wr.heap.size wr W->Calls prog 135 #[aB M m N,aB (aC ⟨g,off,aE⟩) j b,bI #[aA x.key,aB u x.ws.length z]] W fun e w'=>e=aH (.int .i64 (lineFault R (c.take j) x.I))/\Below W.heap.size W w':=by
    intro W l;have ah:=d.trans (l.mono d.size);have av:=f.2 x ac;rw[<-au,<-s];refine I5 x.I (Az.V (Az.V B t) l) (by rw[s];exact K) ((C.V l).take j (by have:=k.out;omega)) ?_ (fun y a4=>(f.2 y (aW a4)).1) (ad▸(C.V l).2 x ac) av.1 av.2 (U.V ah);rw[aU];have:=f.1;have:=k.out;omega
   clear o C ab U f B K O Q ad ae au Z k r V s;generalize lineFault R (c.take j) x.I=F at *;generalize x.ws.length=G at *;generalize x.key=xk at *;have H:Below wr.heap.size wr (wr.alloc (aF #[aA xk,aB u G z] 115)):=(aO _ _).alloc (aM _) _;have k0:=(H.cell (p:=⟨w.heap.size,2,aE⟩) aq).trans P;have I:=A3 (w:=wr) (cs:=#[aA xk,aB u G z]) (T:=115) 0;have J:=A3 (w:=wr) (cs:=#[aA xk,aB u G z]) (T:=115) 1;simp only[aI,aG,aJ]at I J;have i0:(0:Int)<=(j:Int):=by omega
   have bf:(j:Int)<=(b:Int):=by have:=ay.1;omega
   by_cases A:F=0
   ·have ai:=af A;rw[A]at E;clear af ag A;go_wp2
    go_region_held3 (fun W'=>W'.cell? ⟨w.heap.size,2,aE⟩=aC (aB (aC ⟨g,off,aE⟩) n b)/\W'.cell? ⟨wr.heap.size,0,aE⟩=aC (aA xk)/\W'.cell? ⟨wr.heap.size,1,aE⟩=aC (aB u G z))
     (first | exact⟨k0,I,J⟩ | exact⟨(a.cell (by simp;omega)).trans k0,(a.cell (by simp)).trans I,(a.cell (by simp)).trans J⟩)
     (first | (go_at_call 135;refine(E _ H.drew).mono ?_;rintro e aj ⟨rfl,a⟩))
    all_goals
     go_wp2;go_roundw;case rel=>exact⟨j+1,by omega,by go_num,t.trans ((H.drew.trans (a.mono (by simp))).mono t.size),ai⟩
     case measure=>simp[intOf];omega
   ·have ai:=Aa (ag A);have bg:(F != 0)=true:=by rw[bne_iff_ne];exact A
    clear af ag A;go_wp2
    go_region_held3 (fun W'=>W'.cell? ⟨w.heap.size,2,aE⟩=aC (aB (aC ⟨g,off,aE⟩) n b)/\W'.cell? ⟨wr.heap.size,0,aE⟩=aC (aA xk)/\W'.cell? ⟨wr.heap.size,1,aE⟩=aC (aB u G z))
     (first | exact⟨k0,I,J⟩ | exact⟨(a.cell (by simp;omega)).trans k0,(a.cell (by simp)).trans I,(a.cell (by simp)).trans J⟩)
     (first | (go_at_call 135;refine(E _ H.drew).mono ?_;rintro e aj ⟨rfl,a⟩))
    all_goals
     go_wp2;go_ret;exact⟨Au ai.out,d.trans ((H.drew.trans (a.mono (by simp))).mono d.size)⟩
  ·obtain rfl:j=n:=by omega
   have aw:=Aa (show ET (lineLt R) c=linesB R c from Gi.all (by rw[V.out];exact O));have E:∀(W:World),Below wr.heap.size wr W->Calls prog 136 #[aB q j b,.func (.func 147) #[] #[bA (aC ⟨W.heap.size,0,aE⟩)]] (W.alloc (aF #[aB M m N] 47)) fun e w'=>e=aH (.bool (linesB R c))/\Below wr.heap.size wr w':=by
    intro W l;have a5:Below W.heap.size W (W.alloc (aF #[aB M m N] 47)):=(aO _ _).alloc (aM _) _;have S:=l.trans (a5.mono l.size);have ah:=d.trans (S.mono d.size);have ax:=L4 (RL:=L) W.heap.size (o.V ah) (by have:=f.1;have:=k.out;omega) (fun x a6=>(f.2 x a6).1) (AX.rin (Az.V (Az.V B t) S)) (by have:=K.1;rw[<-s,aK]at this;exact this) (A3 (w:=W) 0);rw[s,r.out,aw.out]at ax;exact ax.mono fun e w' ⟨a7,a8⟩=>⟨a7,S.trans (a8.1.mono S.size)⟩
   have a9:=fun W=>CX (v:=aB M m N) ⟨_,_,_,rfl⟩ W
   have ba:Below wr.heap.size wr wr.drew:=(aO _ _).drew;clear o U f B K O k r V s Z aw;go_wp2
   go_region_held3 (fun W'=>W'.cell? ⟨w.heap.size,2,aE⟩=aC (aB q j b))
    (first | exact P | exact(a.cell aq).trans P | go_keep)
    (first | (go_at_call 75;refine(a9 _).mono ?_;rintro e aj ⟨rfl,rfl⟩) | (go_at_call 136;refine(E _ ba).mono ?_;rintro e aj ⟨rfl,a⟩))
   all_goals
    go_wp2;go_ret;exact⟨rfl,d.trans (a.mono d.size)⟩
def Ez(bs:List PBlock)(k:Nat):Prop:=∀i b,i<k->bs[i]?=aC b->headFault (bs.take i) b.aa b.name=0/\Aw (rulesOf b.aa) b.ac
theorem Ez.zero(bs:List PBlock):Ez bs 0:=fun _ _ h=>by omega
theorem Ez.succ{bs:List PBlock}{b:PBlock}(h:Ez bs k)(d:bs[k]?=aC b)(f:headFault (bs.take k) b.aa b.name=0)(g:linesB (rulesOf b.aa) b.ac=true):Ez bs (k+1):=by
 intro i c j a;by_cases e:i=k
 ·subst e;rw[d]at a;cases a;exact⟨f,Bs.1 g⟩
 ·exact h i c (by omega) a
theorem Vc{bs:List PBlock}{b:PBlock}(a:bs[k]?=aC b)(c:headFault (bs.take k) b.aa b.name≠0):false=AJ bs:=by
 rw[eq_comm,<-bG,A0];exact fun h=>c ((EV h).1 k b a).1
theorem Td{bs:List PBlock}{b:PBlock}(c:bs[k]?=aC b)(a:linesB (rulesOf b.aa) b.ac=false):false=AJ bs:=by
 rw[eq_comm,<-bG,A0];intro h;rw[Bs.2 ((EV h).1 k b c).2]at a;cases a
open Classical in
theorem Ez.all{bs:List PBlock}(h:Ez bs bs.length):ET blockLt bs=AJ bs:=by
 rw[b6,A0];unfold ET;rw[decide_eq_true_iff];constructor
 ·intro c;exact PV (fun i b a=>h i b (aL.1 a).1 a) c
 ·exact fun d=>(EV d).2
theorem Te(e:Below B w0 W/\w0.heap.size<=W.heap.size/\W.cell? a1=aC v1/\W.cell? a2=aC v2/\W.cell? a3=aC v3/\W.cell? a4=aC v4)(k:B<=w0.heap.size)(c:Below W.heap.size W W1):
  Below B w0 W1/\w0.heap.size<=W1.heap.size/\W1.cell? a1=aC v1/\W1.cell? a2=aC v2/\W1.cell? a3=aC v3/\W1.cell? a4=aC v4:=by
 obtain⟨f,g,h1,h,i,j⟩:=e;have b:∀ {a:Addr} {u:Value},W.cell? a=aC u->W1.cell? a=aC u:=fun d=>(c.cell (aD W _ d)).trans d
 exact⟨f.trans (c.mono (by omega)),cc g c.size,b h1,b h,b i,b j⟩
theorem Cs(l:As w v bs)(m:Ax bs)(Q:BJ w):Calls prog 19 #[bI #[v]] w fun e w'=>e=aH (.bool (AJ (bs.map BAt.I)))/\Below w.heap.size w w':=by
 obtain⟨R,f,rfl⟩:=l.1.ae;have aj:=l.1.cap;have a1:=m.1;have b0:Below w.heap.size w (w.alloc (aF #[aB R bs.length f] 25)):=(aO _ _).alloc (aM _) _;have C:=A3 (w:=w) (cs:=#[aB R bs.length f]) (T:=25) 0;simp only[aI,aG]at C;generalize S:bs.length=n at *;generalize U:bs.map BAt.I=k;have q:=Aa U;have E:=Aa S;have V:=Aa (show k.length=n by rw[<-U,aK,S]);clear U S;go_enter func19,ntmps19;go_wp2;generalize ap:w.alloc (aF #[aB R n f] 25)=w1 at *;clear ap;go_loopw [8] (fun i wr=>∃j:Nat,j<=n/\i=.int .i64 (j:Int)/\Below w1.heap.size w1 wr/\Ez k j) (fun i _=>n-(intOf i).toNat)
 case atStart=>exact⟨0,by omega,rfl,aO _ _,Ez.zero _⟩
 case round =>
  obtain⟨j,aq,rfl,G,H⟩:=hrel;have d:=b0.trans (G.mono b0.size);have ak:=aD w1 _ C;have I:=(G.cell (p:=⟨w.heap.size,0,aE⟩) ak).trans C;have al:=aD wr _ I;by_cases a2:j<n
  ·obtain⟨D,x,T,J,X⟩:=AS bs j (by have:=E.out;omega);have r:=l.V d;have Y:=r;rw[J]at Y;obtain⟨g,off,rfl,ar,c2,c3⟩:=Y.1.block;have K:x∈bs:=by rw[J];simp
   have Z:=m.2 x K;obtain⟨a,b,aa⟩:=(r.2 x K).1.ae;rw[X]at ar c2 c3;rw[aa]at c3;have L:k[j]?=aC x.I:=by rw[<-q.out,J,<-X];simp
   have am:(bs.take j).map BAt.I=k.take j:=by rw[<-q.out,b9]
   have M:=fun h au=>H.succ L h au
   have N:=fun h=>Vc L h
   have O:=fun h=>Td L h
   have o:∀(W:World),Below wr.heap.size wr W->Calls prog 66 #[aB (aC ⟨g,off,aE⟩) j f,aA x.aa,aA x.name] W fun e w'=>e=aH (.int .i64 (headFault (k.take j) x.I.aa x.I.name))/\Below W.heap.size W w':=by
    intro W P;rw[<-am];exact Gh x.aa x.name ((r.V P).take j (by have:=E.out;omega)) (by rw[aU];have:=m.1;omega) Z.1
   have s:∀(W:World),Below wr.heap.size wr W->Calls prog 67 #[bI #[aA x.aa,aA x.name,aB a x.ls.length b]] W fun e w'=>e=aH (.bool (linesB (rulesOf x.I.aa) x.I.ac))/\Below W.heap.size W w':=by
    intro W P;have av:=d.trans (P.mono d.size);exact Fv x.aa x.name (aa▸(r.V P).2 x K) Z.2 (Q.V av)
   clear l r Y Q m H J aa L am E q V Z;generalize headFault (k.take j) x.I.aa x.I.name=F at *;generalize linesB (rulesOf x.I.aa) x.I.ac=aw at *;generalize x.ls.length=c at *;generalize x.aa=xk at *;generalize x.name=xn at *;have ab:Below wr.heap.size wr (wr.alloc (aF #[aA xk,aA xn,aB a c b] 46)):=(aO _ _).alloc (aM _) _;have k0:=(ab.cell (p:=⟨w.heap.size,0,aE⟩) al).trans I;have ac:=A3 (w:=wr) (cs:=#[aA xk,aA xn,aB a c b]) (T:=46) 0;have ad:=A3 (w:=wr) (cs:=#[aA xk,aA xn,aB a c b]) (T:=46) 1;have ae:=A3 (w:=wr) (cs:=#[aA xk,aA xn,aB a c b]) (T:=46) 2;simp only[aI,aG,aJ]at ac ad ae;have i0:(0:Int)<=(j:Int):=by omega
   have a3:(j:Int)<=(f:Int):=by have:=aj.1;omega
   have af:=EE wr (aF #[aA xk,aA xn,aB a c b] 46);have ax:w.heap.size<(wr.alloc (aF #[aA xk,aA xn,aB a c b] 46)).drew.heap.size:=by rw[bU,af];exact bC al
   have ay:wr.heap.size<(wr.alloc (aF #[aA xk,aA xn,aB a c b] 46)).drew.heap.size:=by rw[bU,af];exact bY _
   have t:=ab.drew;have u:Below wr.heap.size wr (wr.alloc (aF #[aA xk,aA xn,aB a c b] 46)).drew/\wr.heap.size<=(wr.alloc (aF #[aA xk,aA xn,aB a c b] 46)).drew.heap.size/\(wr.alloc (aF #[aA xk,aA xn,aB a c b] 46)).drew.cell? ⟨w.heap.size,0,aE⟩=aC (aB (aC ⟨g,off,aE⟩) n f)/\(wr.alloc (aF #[aA xk,aA xn,aB a c b] 46)).drew.cell? ⟨wr.heap.size,0,aE⟩=aC (aA xk)/\(wr.alloc (aF #[aA xk,aA xn,aB a c b] 46)).drew.cell? ⟨wr.heap.size,1,aE⟩=aC (aA xn)/\(wr.alloc (aF #[aA xk,aA xn,aB a c b] 46)).drew.cell? ⟨wr.heap.size,2,aE⟩=aC (aB a c b):=⟨t,t.size,k0,ac,ad,ae⟩;clear ax ay af ab C ak aj X K aq;by_cases y:F=0
   ·rw[y]at o;clear k0 ac ad ae I;cases aw
    ·have z:=Aa (O rfl);clear M N O;go_wp2
     go_region_held3 (fun W'=>Below wr.heap.size wr W'/\wr.heap.size<=W'.heap.size/\W'.cell? ⟨w.heap.size,0,aE⟩=aC (aB (aC ⟨g,off,aE⟩) n f)/\W'.cell? ⟨wr.heap.size,0,aE⟩=aC (aA xk)/\W'.cell? ⟨wr.heap.size,1,aE⟩=aC (aA xn)/\W'.cell? ⟨wr.heap.size,2,aE⟩=aC (aB a c b))
      (first | assumption | exact u | exact Te (by assumption) (aM _) (by assumption))
      (first | (go_at_call 66;refine(o _ (bD (by assumption))).mono ?_;rintro e ag ⟨rfl,A⟩) | (go_at_call 67;refine(s _ (bD (by assumption))).mono ?_;rintro e az ⟨rfl,ah⟩))
     all_goals
      rename_i B;have ai:=B.1;clear B u A ah o s;go_wp2;go_ret;exact⟨Au z.out,d.trans (ai.mono d.size)⟩
    ·have z:=M y rfl;clear M N O;go_wp2
     go_region_held3 (fun W'=>Below wr.heap.size wr W'/\wr.heap.size<=W'.heap.size/\W'.cell? ⟨w.heap.size,0,aE⟩=aC (aB (aC ⟨g,off,aE⟩) n f)/\W'.cell? ⟨wr.heap.size,0,aE⟩=aC (aA xk)/\W'.cell? ⟨wr.heap.size,1,aE⟩=aC (aA xn)/\W'.cell? ⟨wr.heap.size,2,aE⟩=aC (aB a c b))
      (first | assumption | exact u | exact Te (by assumption) (aM _) (by assumption))
      (first | (go_at_call 66;refine(o _ (bD (by assumption))).mono ?_;rintro e ag ⟨rfl,A⟩) | (go_at_call 67;refine(s _ (bD (by assumption))).mono ?_;rintro e az ⟨rfl,ah⟩))
     all_goals
      rename_i B;have ai:=B.1;clear B u A ah o s;go_wp2;go_roundw;case rel=>exact⟨j+1,by omega,by go_num,G.trans (ai.mono G.size),z⟩
      case measure=>simp[intOf];omega
   ·have z:=Aa (N y);have a4:(F != 0)=true:=by rw[bne_iff_ne];exact y
    clear M N O y s u I;go_wp2
    go_region_with (first
     | (go_at_call 66;refine(o _ t).mono ?_;rintro e ag ⟨rfl,A⟩))
    all_goals
     go_wp2;go_ret;exact⟨Au z.out,d.trans ((t.trans (A.mono t.size)).mono d.size)⟩
  ·obtain rfl:j=n:=by omega
   have an:=Aa (show ET blockLt k=AJ k from Ez.all (by rw[V.out];exact H));have ao:=K7 (l.V d) (by have:=m.1;omega);rw[q.out,an.out]at ao;clear l m Q H E q V an;go_wp2_with (go_at_call 68;refine ao.mono ?_;rintro e ag ⟨rfl,a0⟩)
   go_ret;exact⟨rfl,d.trans (a0.1.mono d.size)⟩
variable {β:Type}
theorem Pr{f:α->β}{xs ys:List α}(h:xs.map f=ys.map f){x:α}(a:x∈xs):∃y∈ys,f y=f x:=by
 have:f x∈ys.map f:=by rw[<-h];exact aY a
 obtain⟨y,b,e⟩:=aT.1 this;exact⟨y,b,e⟩
theorem Ps{f:α->β}{xs ys:List α}(h:xs.map f=ys.map f):xs.length=ys.length:=by
 have:=congrArg List.length h;simpa using this
theorem Ah.same{xs ys:List LAt}(h:Ah ys)(a:xs.map LAt.I=ys.map LAt.I):Ah xs:=by
 refine⟨by rw[Ps a];exact h.1,fun x b=>?_⟩;obtain⟨y,c,e⟩:=Pr a b;have:=h.2 y c;simp only[LAt.I,PLine.mk.injEq]at e;rw[<-e.2];exact this
theorem Ax.same{xs ys:List BAt}(h:Ax ys)(a:xs.map BAt.I=ys.map BAt.I):Ax xs:=by
 refine⟨by rw[Ps a];exact h.1,fun x b=>?_⟩;obtain⟨y,c,e⟩:=Pr a b;have:=h.2 y c;simp only[BAt.I,PBlock.mk.injEq]at e;exact⟨by rw[<-e.2.1];exact this.1,this.2.same e.2.2.symm⟩
def K8(R:List Plain):Prop:=(R.map fun p=>p.1.toList).Nodup
theorem XQ(kind:ByteArray):K8 (rulesOf kind):=by
 unfold rulesOf K8;split
 ·unfold teamRules;simp only[aN];decide
 ·split
  ·unfold berthRules;simp only[aN];decide
  ·split
   ·unfold serviceRules;simp only[aN];decide
   ·simp
theorem ZL(h:K8 R){D T:List Plain}{p:Plain}{key:ByteArray}(k:R=D++p::T)(l:Bt R key=aC p):placeI R key=(D.length:Int):=by
 obtain⟨i,m,b,n⟩:=Dk l;rw[m];have h1:R[D.length]?=aC p:=by rw[k];simp
 have c:=(aL.1 b).1;have d:=(aL.1 h1).1;by_cases e:i=D.length
 ·rw[e]
 ·exfalso;have f:=List.pairwise_iff_getElem.1 h;have g:=(aL.1 b).2;have j:=(aL.1 h1).2;rcases Nat.lt_or_gt_of_ne e with a | a
  ·have:=f i D.length (by simpa using c) (by simpa using d) a;simp only[bF,g,j]at this;exact this rfl
  ·have:=f D.length i (by simpa using d) (by simpa using c) a;simp only[bF,g,j]at this;exact this rfl
theorem Vg{key:ByteArray}(h:Bt R key=aE):placeI R key=-1:=by
 unfold placeI;rw[bJ.2];unfold Bt at h;intro p a;have:=List.find?_eq_none.1 h p a;simpa using this
def Got(v:Value)(w:World)(e:Ending)(w':World):Prop:=e=aH v/\Below w.heap.size w w'
theorem Hq(kind key:ByteArray)(w:World):Calls prog 90 #[aA kind,aA key] w fun e w'=>e=aH (.int .i64 (placeI (rulesOf kind) key))/\Below w.heap.size w w':=by
 refine(MK kind key w).mono fun e w' ⟨a,b⟩=>⟨?_,a⟩
 rcases b with ⟨h,rfl⟩ | ⟨D,p,T,c,h,rfl⟩
 ·rw[Vg h]
 ·rw[ZL (XQ kind) c h]
theorem Aeq{xs:List (List UInt8)}(h:Cp xs ys k)(h1:k<xs.length)(f:k<ys.length)(e:(xs[k]==ys[k])=false):decide (xs[k]<ys[k])=decide (xs<ys):=by
 rw[decide_eq_decide];unfold Cp at h;have g:xs=xs.take k++xs[k]::xs.drop (k+1):=by rw[<-bK h1,aR]
 have i:ys=ys.take k++ys[k]::ys.drop (k+1):=by rw[<-bK f,aR]
 have j:xs[k]≠ys[k]:=by simpa using e
 have l:∀(p a b:List (List UInt8)),p++a<p++b↔a<b:=by
  intro p a b
  induction p with
  | nil=>rfl
  | cons c p d =>
   rw[aV,aV,FK];constructor
   ·rintro(q | ⟨_,q⟩)
    ·exact absurd q (FJ.irr _)
    ·exact d.1 q
   ·exact fun q=>.inr ⟨rfl,d.2 q⟩
 generalize m:xs[k]=X at *;generalize n:ys[k]=Y at *;rw[g,i,h,l,FK];constructor
 ·exact fun q=>.inl q
 ·rintro(q | ⟨q,_⟩)
  ·exact q
  ·exact absurd q j
theorem Tf{xs:List (List UInt8)}(h:Cp xs ys k)(s:k=xs.length\/k=ys.length)(t:k<=xs.length)(u:k<=ys.length):decide (xs.length<ys.length)=decide (xs<ys):=by
 rw[decide_eq_decide];unfold Cp at h;have j:xs=xs.take k++xs.drop k:=(aR _ _).symm;have m:ys=ys.take k++ys.drop k:=(aR _ _).symm;have n:∀(p a b:List (List UInt8)),p++a<p++b↔a<b:=by
  intro p a b
  induction p with
  | nil=>rfl
  | cons c p f =>
   rw[aV,aV,FK];constructor
   ·rintro(q | ⟨_,q⟩)
    ·exact absurd q (FJ.irr _)
    ·exact f.1 q
   ·exact fun q=>.inr ⟨rfl,f.2 q⟩
 have o:xs<ys↔xs.drop k<ys.drop k:=by
  conv=>lhs;rw[j,m,h]
  exact n _ _ _
 rw[o];have d:(xs.drop k).length=xs.length-k:=bW;have e:(ys.drop k).length=ys.length-k:=bW;cases g:xs.drop k with
 | nil =>
  rw[g]at d;simp at d;cases i:ys.drop k with
  | nil =>
   rw[i]at e;simp at e;constructor
   ·intro q;omega
   ·intro q;exact absurd q (bZ _)
  | cons y l =>
   rw[i]at e;simp at e;exact⟨fun _=>List.nil_lt_cons _ _,fun _=>by omega⟩
 | cons x l =>
  rw[g]at d;simp at d;have r:ys.drop k=[]:=List.drop_eq_nil_of_le (by omega);rw[r];constructor
  ·intro q;omega
  ·intro q;exact absurd q (bZ _)
theorem IW{xs:List (List UInt8)}(h1:Ap w (aB ao n ca) xs.length 1 (strs xs))(d:Ap w (aB bo m cb) ys.length 1 (strs ys))(r:n<=1048576)(s:m<=1048576):Calls prog 156 #[aB ao n ca,aB bo m cb] w fun e w'=>e=aH (.bool (decide (xs<ys)))/\∃q,w'=w.drewN q:=by
 have g:=Aa (show n=xs.length by obtain⟨_,_,_,e,_⟩:=h1;cases e;rfl);have f:=Aa (show m=ys.length by obtain⟨_,_,_,e,_⟩:=d;cases e;rfl);go_enter func156,ntmps156;go_wp2;go_loopw [5] (fun i wr=>∃k q:Nat,k<=n/\k<=m/\i=.int .i64 (k:Int)/\wr=w.drewN q/\Cp xs ys k) (fun i _=>n-(intOf i).toNat)
 case atStart=>exact⟨0,0,by omega,by omega,rfl,rfl,Cp.zero _ _⟩
 case round =>
  obtain⟨k,q,t,u,rfl,rfl,a⟩:=hrel;by_cases v:k<n
  ·have o:k<xs.length:=by have:=g.out;omega
   by_cases z:k<m
   ·have p:k<ys.length:=by have:=f.out;omega
    obtain⟨b,off,rfl,A⟩:=h1.word k o;obtain⟨B,C,rfl,c2⟩:=d.word k p;have h:(aX xs[k].toArray).toList=xs[k]:=by rw[aN]
    have j:(aX ys[k].toArray).toList=ys[k]:=by rw[aN]
    cases l:(xs[k]==ys[k])
    ·have c:=Aa (show cd xs[k] ys[k]=decide (xs<ys) by rw[Jo];exact Aeq a o p l);rw[<-h,<-j]at l c;generalize (⟨xs[k].toArray⟩:ByteArray)=x at *;generalize (⟨ys[k].toArray⟩:ByteArray)=y at *;clear a h1 d h j;go_wp2;go_quiet (fail)
     go_wp2;go_quiet (fail)
     go_wp2;go_ret;exact⟨Au c.out,_,by first | rfl | exact aQ _ _ _ | (rw[aQ,aQ])⟩
    ·have c:=a.succ o p l;rw[<-h,<-j]at l;generalize (⟨xs[k].toArray⟩:ByteArray)=x at *;generalize (⟨ys[k].toArray⟩:ByteArray)=y at *;clear a h1 d h j;go_wp2;go_quiet (fail)
     go_wp2;go_roundw;case rel=>exact⟨k+1,_,by omega,by omega,by go_num,by first | rfl | exact aQ _ _ _,c⟩
     case measure=>simp[intOf];omega
   ·have c:=Aa (show decide (n<m)=decide (xs<ys) by rw[g.out,f.out];exact Tf a (.inr (by have:=f.out;omega)) (by omega) (by have:=f.out;omega));clear a h1 d;go_wp2;go_ret;exact⟨Au c.out,q,rfl⟩
  ·have c:=Aa (show decide (n<m)=decide (xs<ys) by rw[g.out,f.out];exact Tf a (.inl (by have:=g.out;omega)) (by have:=g.out;omega) (by have:=f.out;omega));clear a h1 d;go_wp2;go_ret;exact⟨Au c.out,q,rfl⟩
theorem Hr(kind:ByteArray)(a b:PLine)(s:Ap w va a.ws.length 1 (strs a.ws))(t:Ap w vb b.ws.length 1 (strs b.ws))(la:a.ws.length<=1048576)(lb:b.ws.length<=1048576):Calls prog 121 #[aA kind,bI #[aA a.key,va],bI #[aA b.key,vb]] w fun e w'=>e=aH (.bool (lineLt (rulesOf kind) a b))/\Below w.heap.size w w':=by
 obtain⟨h,ca,rfl⟩:=s.ae;obtain⟨i,cb,rfl⟩:=t.ae;have j:=((aO w.heap.size w).alloc (aM _) (aF #[aA a.key,aB h a.ws.length ca] 115)).alloc (by simp) (aF #[aA b.key,aB i b.ws.length cb] 115);have f:=BO (w:=w) (cs:=#[aA a.key,aB h a.ws.length ca]) (ds:=#[aA b.key,aB i b.ws.length cb]) (T:=115) (U:=115);have c0:=f.1 0;have k:=f.1 1;have u:=f.2 0;have l:=f.2 1;simp only[aI,aG,aJ]at c0 k u l;clear f;have z:=s.V j;have A:=t.V j;have v:∀key W,Calls prog 90 #[aA kind,aA key] W fun e w'=>Got (.int .i64 (placeI (rulesOf kind) key)) W e w':=fun key W=>Hq kind key W
 have c:=Aa (show lineLt (rulesOf kind) a b=(decide (placeI (rulesOf kind) a.key<placeI (rulesOf kind) b.key) || (decide (placeI (rulesOf kind) a.key=placeI (rulesOf kind) b.key)&&decide (a.ws<b.ws))) from rfl);generalize lineLt (rulesOf kind) a b=LT at *;generalize placeI (rulesOf kind)=B at *;generalize C:a.ws.length=D at *;generalize E:b.ws.length=F at *;have I:=Aa C;have J:=Aa E;clear s t C E;go_enter func121,ntmps121;go_wp2_with fail
 generalize (w.alloc (aF #[aA a.key,aB h D ca] 115)).alloc (aF #[aA b.key,aB i F cb] 115)=W at *;have K:=aD W _ k;have G:=aD W _ l;go_wp2_with (go_at_call 90;refine(v a.key _).mono ?_)
 rintro e w1 ⟨rfl,m⟩;have L:=(m.cell (p:=⟨w.heap.size+1,0,aE⟩) G).trans u;go_wp2_with (go_at_call 90;refine(v b.key _).mono ?_)
 rintro e w2 ⟨rfl,H⟩;have d:=m.trans (H.mono m.size);have M:=(d.cell (p:=⟨w.heap.size,1,aE⟩) K).trans k;have N:=(d.cell (p:=⟨w.heap.size+1,1,aE⟩) G).trans l;have x:=j.trans (d.mono j.size);have y:=IW (w:=w2) (show Ap _ (aB h D ca) a.ws.length 1 (strs a.ws) by rw[I.out];exact z.V d) (show Ap _ (aB i F cb) b.ws.length 1 (strs b.ws) by rw[J.out];exact A.V d) la lb;clear v z A m H d c0 k u l L;generalize B a.key=n at *;generalize B b.key=o at *;by_cases h1:n<o
 ·have g:=Aa (show true=LT by rw[c.out];simp[h1]);clear c y;go_wp2;go_ret;exact⟨Au g.out,x⟩
 ·by_cases r:n=o
  ·have g:=Aa (show decide (a.ws<b.ws)=LT by rw[c.out];simp[r]);subst r;clear c;generalize decide (a.ws<b.ws)=O at *;go_wp2_with (go_at_call 156;refine y.mono ?_;rintro e w3 ⟨rfl,q,rfl⟩)
   go_ret;exact⟨Au g.out,below_drewN x q⟩
  ·have g:=Aa (show decide (n<o)=LT by rw[c.out];simp[h1,r]);have P:(n==o)=false:=by rw[beq_eq_false_iff_ne];exact r
   clear c y;go_wp2;go_ret;exact⟨Au g.out,x⟩
theorem KX(a b:PBlock)(la lb ca cb:Nat)(i j:Option Addr)(w:World):Calls prog 59 #[bI #[aA a.aa,aA a.name,aB i la ca],bI #[aA b.aa,aA b.name,aB j lb cb]] w fun e w'=>e=aH (.bool (blockLt a b))/\Below w.heap.size w w':=by
 have k:=((aO w.heap.size w).alloc (aM _) (aF #[aA a.aa,aA a.name,aB i la ca] 46)).alloc (by simp) (aF #[aA b.aa,aA b.name,aB j lb cb] 46);have f:=BO (w:=w) (cs:=#[aA a.aa,aA a.name,aB i la ca]) (ds:=#[aA b.aa,aA b.name,aB j lb cb]) (T:=46) (U:=46);have c0:=f.1 0;have m:=f.1 1;have n:=f.2 0;have o:=f.2 1;simp only[aI,aG,aJ]at c0 m n o;clear f;have c:=Aa (show blockLt a b=(decide (a.aa.toList<b.aa.toList) || (decide (a.aa.toList=b.aa.toList)&&decide (a.name.toList<b.name.toList))) from rfl);generalize blockLt a b=LT at *;generalize a.aa=g at *;generalize a.name=p at *;generalize b.aa=bk at *;generalize b.name=bn at *;have l:=Jo g.toList bk.toList;by_cases h1:g.toList<bk.toList
 ·have h:=Aa (show true=LT by rw[c.out];simp[h1]);rw[decide_eq_true h1]at l;clear c h1;go_enter func59,ntmps59;go_wp2;go_ret;exact⟨Au h.out,k⟩
 ·rw[decide_eq_false h1]at l;by_cases d:g.toList=bk.toList
  ·have q:(g.toList==bk.toList)=true:=by rw[beq_iff_eq];exact d
   have h:=Aa (show cd p.toList bn.toList=LT by rw[Jo,c.out,decide_eq_false h1,decide_eq_true d];simp);clear c h1 d;go_enter func59,ntmps59;go_wp2;go_ret;exact⟨Au h.out,k⟩
  ·have q:(g.toList==bk.toList)=false:=by rw[beq_eq_false_iff_ne];exact d
   have h:=Aa (show false=LT by rw[c.out];simp[h1,d]);clear c h1 d;go_enter func59,ntmps59;go_wp2;go_ret;exact⟨Au h.out,k⟩
variable {us:List PBlock}
def NS(ws:List (List UInt8)):Prop:=ws.length<=1048576/\∀y∈ws,y.length<=1048576
theorem lay_lines{o:PBlock}{a:PLine}(h:a∈(EX us o).ac):a∈o.ac\/∃u∈us,a∈u.ac:=by
 unfold EX at h;split at h
 ·rename_i u b;rcases over_mem.1 h with h | h
  ·exact .inl h
  ·exact .inr ⟨u,(Bo b).1,h.1⟩
 ·exact .inl h
theorem FY(h:Ax bs){b:PBlock}(c:b∈bs.map BAt.I):b.name.size<=1048576/\∀a∈b.ac,NS a.ws:=by
 obtain⟨b',d,rfl⟩:=aT.1 c;have h1:=h.2 b' d;refine⟨h1.1,fun a e=>?_⟩;obtain⟨x,f,rfl⟩:=aT.1 e;exact h1.2.2 x f
theorem Lr{us os:List BAt}(k:Ax us)(l:Ax os)(e:bs.map BAt.I=Bb (us.map BAt.I) (os.map BAt.I)):Ax bs:=by
 by_cases c:AJ (us.map BAt.I)=true/\AJ (os.map BAt.I)=true/\(AM (us.map BAt.I) (os.map BAt.I)).length<=60
 ·have g:=A0.1 c.1;have i:=A0.1 c.2.1;have ok:=Fp g i c.2.2;have v:bs.length<=60:=by rw[<-aK (f:=BAt.I),e];exact ok.1
  refine⟨by omega,fun b d=>?_⟩;have j:b.I∈Bb (us.map BAt.I) (os.map BAt.I):=e▸aY d;have w:=(ok.2.1 _ j).2.2.few;have y:=(Bf b.I.aa).1;have z:b.I.ac.length=b.ls.length:=aK ..;have m:b.I.name.size<=1048576/\∀a∈b.I.ac,NS a.ws:=by
   rw[Fo g i c.2.2,SR (fun b d=>(D3 g i b d).2.2)]at j;rcases overRaw_mem.1 j with ⟨o,n,p⟩ | ⟨q,_⟩
   ·rw[p];refine⟨by rw[(BN _ o).2];exact(FY l n).1,fun a r=>?_⟩;rcases lay_lines r with h | ⟨u,s,h⟩
    ·exact(FY l n).2 a h
    ·exact(FY k s).2 a h
   ·exact FY k q
  exact⟨m.1,by omega,fun x t=>m.2 x.I (aY t)⟩
 ·have:Bb (us.map BAt.I) (os.map BAt.I)=[]:=by unfold Bb;rw[if_neg c]
  rw[this]at e;have d:bs=[]:=List.map_eq_nil_iff.1 e;rw[d];exact⟨by simp,by simp⟩
