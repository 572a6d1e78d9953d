import Derived.Test.YtpdahhnjhggocaaGreatDoorMz17
import Derived.Test.YtpdahhnjhggocaaGreatDoorMz19
namespace Go.Proofs.YtpdahhnjhggocaaGreatDoor
open Go.RowKit
set_option maxHeartbeats 16000000
set_option maxRecDepth 100000
variable {w w':World}{cs:Array Value}{v:Value}{B n m:Nat}{ao:Option Addr}
theorem Cz.place{D T:List Ce}{r:Ce}{key:ByteArray}(h:Cz (D++r::T) key D.length)(hr:(r.key.toList == key.toList)=true):(D.length:Int)=placeI ((D++r::T).map Ce.plain) key:=by
 unfold placeI;unfold Cz at h;have e:((D++r::T).map Ce.plain).findIdx? (fun p=>p.1.toList == key.toList)=some D.length:=by
  refine List.findIdx?_eq_some_iff_getElem.2 ⟨by simp,by simpa [Ce.plain] using hr,fun j hj=>?_⟩;rw[List.take_append_of_le_length (Nat.le_refl _),List.take_length]at h;have:=h D[j] (List.getElem_mem _);simp only[List.getElem_map];rw[List.getElem_append_left hj];simpa [Ce.plain] using this
 rw[e]
theorem Cz.no_place{L:List Ce}{key:ByteArray}(h:Cz L key L.length):(-1:Int)=placeI (L.map Ce.plain) key:=by
 unfold placeI;rw[List.findIdx?_eq_none_iff.2];intro p hp;unfold Cz at h;rw[List.take_length]at h;obtain⟨r,hr,rfl⟩:=List.mem_map.1 hp;exact h r hr
theorem Bg{T:TypeId}(j:Nat):(w.alloc (.cells cs T)).cell? ⟨w.heap.size,j,none⟩=cs[j]?:=by
 unfold World.cell?;rw[Al];rfl
theorem Abv(rk key:ByteArray)(va vd:Value)(many:Bool)(g:Nat)(w:World)(hva:∃ a n c,va=.slice a n c)(hvd:∃ a n c,vd=.slice a n c)(hg:w.cell? ⟨g,0,none⟩=some (.string key)):Calls Tryz.prog 204 #[.agg #[.string rk,va,.bool many,vd],.pointer (some ⟨g,0,none⟩)] w fun e w'=>e=.returned (.bool (rk.toList == key.toList))∧Bw w w':=by
 obtain⟨a,n,c,rfl⟩:=hva;obtain⟨a',n',c',rfl⟩:=hvd;have G:=(Bw.refl w).alloc (.cells #[.string rk,.slice a n c,.bool many,.slice a' n' c'] 54);have hlt:=World.block_lt_of_cell? w _ hg;have hg':(w.alloc (.cells #[.string rk,.slice a n c,.bool many,.slice a' n' c'] 54)).cell? ⟨g,0,none⟩=some (.string key):=(G.1.cell hlt).trans hg;go_enter Tryz.func204,Tryz.ntmps204;go_wp2;go_ret;exact⟨rfl,G⟩
def Gc(w:World)(v:Value)(L:List Ce):Prop:=An w v L.length 4 (L.flatMap Ce.cells)∧∀ r∈L,(∃ a n c,r.va=.slice a n c)∧∃ a n c,r.vd=.slice a n c
theorem Ce.len(x:Ce):x.cells.length=4:=rfl
theorem Gc.below{L:List Ce}(h:Gc w v L)(hb:Below w.heap.size w w'):Gc w' v L:=⟨h.1.below hb,h.2⟩
theorem Cm.rin{L:List Ce}(h:Cm B w v L):Gc w v L:=by
 refine⟨Bo (A8.head h),fun r hr=>?_⟩;obtain⟨D,T,rfl⟩:=List.append_of_mem hr;obtain⟨a,c,e1,_⟩:=Ai h.rm.args;obtain⟨a',c',e2,_⟩:=Ai h.rm.defs;exact⟨⟨a,_,c,e1⟩,⟨a',_,c',e2⟩⟩
theorem An.rule{cap:Nat}{D T:List Ce}{x:Ce}(h:An w (.slice ao m cap) n 4 ((D++x::T).flatMap Ce.cells)):∃ b off,ao=some ⟨b,off,none⟩∧w.cell? ⟨b,off+D.length * 4,none⟩=some (.string x.key)∧w.cell? ⟨b,off+D.length * 4+1,none⟩=some x.va∧w.cell? ⟨b,off+D.length * 4+2,none⟩=some (.bool x.many)∧w.cell? ⟨b,off+D.length * 4+3,none⟩=some x.vd:=by
 have hn:0<n:=by have:=h.1;rw[By _ 4 Ce.len]at this;simp at this;omega
 obtain⟨b,off,ha,hc⟩:=h.at hn;refine⟨b,off,ha,?_,?_,?_,?_⟩
 ·have:=hc (D.length * 4+0) (.string x.key) (by rw[D4 _ 4 Ce.len _ _ _ 0 (by decide)];rfl);simpa using this
 ·have:=hc (D.length * 4+1) x.va (by rw[D4 _ 4 Ce.len _ _ _ 1 (by decide)];rfl);rw[← Nat.add_assoc]at this;exact this
 ·have:=hc (D.length * 4+2) (.bool x.many) (by rw[D4 _ 4 Ce.len _ _ _ 2 (by decide)];rfl);rw[← Nat.add_assoc]at this;exact this
 ·have:=hc (D.length * 4+3) x.vd (by rw[D4 _ 4 Ce.len _ _ _ 3 (by decide)];rfl);rw[← Nat.add_assoc]at this;exact this
theorem Rh{L:List Ce}(key:ByteArray)(g:Nat)(hr:Gc w v L)(hl:L.length≤12)(hg:w.cell? ⟨g,0,none⟩=some (.string key)):Calls Tryz.prog 203 #[v,.func (.func 204) #[] #[.pointer (some ⟨g,0,none⟩)]] w fun e w'=>e=.returned (.int .i64 (placeI (L.map Ce.plain) key))∧Bw w w':=by
 obtain⟨ao,cap,rfl⟩:=hr.1.form;generalize hn:L.length=n at *;go_enter Tryz.func203,Tryz.ntmps203;go_wp2;go_loopw [8] (fun i wr=>∃ j:Nat,j≤n∧i=.int .i64 (j:Int)∧Bw w wr∧Cz L key j) (fun i _=>n - (intOf i).toNat)
 case atStart=>exact⟨0,by omega,rfl,Bw.refl _,Cz.zero _ _⟩
 case round =>
  obtain⟨j,hj,rfl,G,hA⟩:=hrel;by_cases hlt:j<n
  ·obtain⟨D,r,T,rfl,hD⟩:=Br L j (by omega);have hr':=hr.below G.1;obtain⟨b,off,rfl,c0,c1,c2,c3⟩:=hr'.1.rule;have hsh:=hr'.2 r (by simp);have hg':wr.cell? ⟨g,0,none⟩=some (.string key):=(G.1.cell (World.block_lt_of_cell? w _ hg)).trans hg;obtain⟨rk,va,ns,many,vd,ds⟩:=r;simp only at c0 c1 c2 c3 hsh;subst hD;have H:=Abv rk key va vd many g wr hsh.1 hsh.2 hg';cases hk:(rk.toList == key.toList)
   ·have HA:=hA.succ hk;rw[hk]at H;clear hA hr hr' hg hg' hsh;go_wp2_with (go_at_call 204;refine H.mono ?_;rintro e w1 ⟨rfl,G1⟩)
    go_roundw;case rel=>exact⟨D.length+1,by omega,by go_num,G.trans G1,HA⟩
    case measure=>simp[intOf];omega
   ·have HA:=Aa (hA.place hk);rw[hk]at H;clear hA hr hr' hg hg' hsh;go_wp2_with (go_at_call 204;refine H.mono ?_;rintro e w1 ⟨rfl,G1⟩)
    go_ret;exact⟨Dp HA.out,G.trans G1⟩
  ·obtain rfl:j=n:=by omega
   have HA:=Aa (Cz.no_place (hn ▸ hA));clear hA hr;go_wp2;go_ret;exact⟨Dp HA.out,G⟩
theorem Te{L:List Ce}(key:ByteArray)(hr:Gc w v L)(hl:L.length≤12):Calls Tryz.prog 149 #[v,.string key] w fun e w'=>e=.returned (.int .i64 (placeI (L.map Ce.plain) key))∧Bw w w':=by
 have G:=(Bw.refl w).alloc (.cells #[.string key] 9);have H:=Rh key w.heap.size (hr.below G.1) hl (Bg 0);clear hr;go_enter Tryz.func149,Tryz.ntmps149;go_wp2_with (go_at_call 203;refine H.mono ?_;rintro e w1 ⟨rfl,G1⟩)
 go_ret;exact⟨rfl,G.trans G1⟩
variable {U:TypeId}{W0 W W1:World}{g h k:Nat}{va vb:Value}
def blockCmp(ka na kb nb:ByteArray):Int:=orI (Ga ka.toList kb.toList) (Ga na.toList nb.toList)
def lineCmp(R:List Plain)(a b:PLine):Int:=orI (Af5 (placeI R a.key) (placeI R b.key)) (Ga a.ws b.ws)
theorem Fw(a b:PBlock):blockCmp a.kind a.name b.kind b.name<0↔blockLt a b=true:=by
 unfold blockCmp orI;rw[Dz];by_cases h:Ga a.kind.toList b.kind.toList=0
 ·rw[if_pos h,Ot];rw[Hx]at h;rw[h];constructor
  ·exact fun k=>.inr ⟨rfl,k⟩
  ·rintro(k | ⟨_,k⟩)
   ·exact absurd k (Jj.irr _)
   ·exact k
 ·rw[if_neg h,Ot];rw[Hx]at h;constructor
  ·exact fun k=>.inl k
  ·rintro(k | ⟨k,_⟩)
   ·exact k
   ·exact absurd k h
theorem H9(R:List Plain)(a b:PLine):lineCmp R a b<0↔lineLt R a b=true:=by
 unfold lineCmp orI Af5;rw[Ei];by_cases h:placeI R a.key<placeI R b.key
 ·rw[if_pos h,if_neg (by decide)];exact⟨fun _=>.inl h,fun _=>by decide⟩
 ·rw[if_neg h];by_cases k:placeI R b.key<placeI R a.key
  ·rw[if_pos k,if_neg (by decide)];constructor
   ·intro q;omega
   ·rintro(q | ⟨q,_⟩) <;> omega
  ·rw[if_neg k,if_pos rfl,Ot];constructor
   ·exact fun q=>.inr ⟨by omega,q⟩
   ·rintro(q | ⟨_,q⟩)
    ·omega
    ·exact q
theorem Di{ds:Array Value}{T:TypeId}:(∀ j:Nat,((w.alloc (.cells cs T)).alloc (.cells ds U)).cell? ⟨w.heap.size,j,none⟩=cs[j]?)∧∀ j:Nat,((w.alloc (.cells cs T)).alloc (.cells ds U)).cell? ⟨w.heap.size+1,j,none⟩=ds[j]?:=by
 constructor
 ·intro j;unfold World.cell?;rw[Cy _ _ _ (by simp),Al];rfl
 ·intro j;unfold World.cell?;have:=Al (w.alloc (.cells cs T)) (.cells ds U);simp only[World.size_alloc]at this;rw[this];rfl
theorem Gd(ka na kb nb:ByteArray)(la lb ca cb:Nat)(aa ab:Option Addr)(w:World):Calls Tryz.prog 51 #[.agg #[.string ka,.string na,.slice aa la ca],.agg #[.string kb,.string nb,.slice ab lb cb]] w fun e w'=>e=.returned (.int .i64 (blockCmp ka na kb nb))∧Bw w w':=by
 have G:=((Bw.refl w).alloc (.cells #[.string ka,.string na,.slice aa la ca] 46)).alloc (.cells #[.string kb,.string nb,.slice ab lb cb] 46);have hc:=Di (w:=w) (cs:=#[.string ka,.string na,.slice aa la ca]) (ds:=#[.string kb,.string nb,.slice ab lb cb]) (T:=46) (U:=46);have c0:=hc.1 0;have c1:=hc.1 1;have d0:=hc.2 0;have d1:=hc.2 1;simp only[List.getElem?_toArray,List.getElem?_cons_zero,List.getElem?_cons_succ]at c0 c1 d0 d1;clear hc;have HS:=fun a b W=>P1 a b W
 have HO:=fun(x y:Int) (W:World)=>Ni x y W.heap.size (W.alloc (.cells #[.int .i64 x,.int .i64 y] 3)).drew (Bg (w:=W) 0) (Bg (w:=W) 1)
 go_enter Tryz.func51,Tryz.ntmps51;go_wp2;generalize (w.alloc (.cells #[.string ka,.string na,.slice aa la ca] 46)).alloc (.cells #[.string kb,.string nb,.slice ab lb cb] 46)=W at *;generalize w.heap.size=g at *
 go_region_held3 (fun W'=>W'.cell? ⟨g,0,none⟩=some (.string ka)∧W'.cell? ⟨g,1,none⟩=some (.string na)∧W'.cell? ⟨g+1,0,none⟩=some (.string kb)∧W'.cell? ⟨g+1,1,none⟩=some (.string nb)) (go_keep)
  (first | (go_at_call 116;refine(HS _ _ _).mono ?_;rintro e wx ⟨rfl,rfl⟩) | (go_at_call 115;refine(HO _ _ _).mono ?_;rintro e wx ⟨rfl,rfl⟩))
 all_goals
  go_wp2;go_ret;exact⟨rfl,(G.alloc _).drewN 1⟩
theorem Mc{ka kb:ByteArray}(hS:Bw W0 W∧W.cell? ⟨g,0,none⟩=some v∧W.cell? ⟨h,0,none⟩=some (.string ka)∧W.cell? ⟨h,1,none⟩=some va∧W.cell? ⟨k,0,none⟩=some (.string kb)∧W.cell? ⟨k,1,none⟩=some vb)(G:Bw W W1):
  Bw W0 W1∧W1.cell? ⟨g,0,none⟩=some v∧W1.cell? ⟨h,0,none⟩=some (.string ka)∧W1.cell? ⟨h,1,none⟩=some va∧W1.cell? ⟨k,0,none⟩=some (.string kb)∧W1.cell? ⟨k,1,none⟩=some vb:=by
 obtain⟨h0,h1,h2,h3,h4,h5⟩:=hS;have kc:∀ {a:Addr} {u:Value},W.cell? a=some u→W1.cell? a=some u:=fun hc=>(G.1.cell (World.block_lt_of_cell? W _ hc)).trans hc
 exact⟨h0.trans G,kc h1,kc h2,kc h3,kc h4,kc h5⟩
theorem Bw.drew1(w:World):Bw w w.drew:=(Bw.refl w).drewN 1
theorem Lc{L:List Ce}(a b:PLine)(g:Nat)(hr:Gc w v L)(hl:L.length≤12)(hg:w.cell? ⟨g,0,none⟩=some v)(ha:An w va a.ws.length 1 (strs a.ws))(hb:An w vb b.ws.length 1 (strs b.ws))(la:a.ws.length≤1048576)(lb:b.ws.length≤1048576):Calls Tryz.prog 147 #[.agg #[.string a.key,va],.agg #[.string b.key,vb],.pointer (some ⟨g,0,none⟩)] w fun e w'=>e=.returned (.int .i64 (lineCmp (L.map Ce.plain) a b))∧Bw w w':=by
 obtain⟨aa,ca,rfl⟩:=ha.form;obtain⟨ab,cb,rfl⟩:=hb.form;obtain⟨ar,cr,rfl⟩:=hr.1.form;generalize hna:a.ws.length=na at *;generalize hnb:b.ws.length=nb at *;generalize hnr:L.length=nr at *;have G:=((Bw.refl w).alloc (.cells #[.string a.key,.slice aa na ca] 115)).alloc (.cells #[.string b.key,.slice ab nb cb] 115);have hc:=Di (w:=w) (cs:=#[.string a.key,.slice aa na ca]) (ds:=#[.string b.key,.slice ab nb cb]) (T:=115) (U:=115);have c0:=hc.1 0;have c1:=hc.1 1;have d0:=hc.2 0;have d1:=hc.2 1;simp only[List.getElem?_toArray,List.getElem?_cons_zero,List.getElem?_cons_succ]at c0 c1 d0 d1;clear hc;have hr1:=hr.below G.1;have ha1:=ha.below G.1;have hb1:=hb.below G.1;have hg1:=(G.1.cell (World.block_lt_of_cell? w _ hg)).trans hg;have HO:=fun(x y:Int) (W:World)=>Ni x y W.heap.size (W.alloc (.cells #[.int .i64 x,.int .i64 y] 3)).drew (Bg (w:=W) 0) (Bg (w:=W) 1)
 have HP:=fun(x y:Int) (W:World)=>Ni x y W.heap.size (W.alloc (.cells #[.int .i64 x,.int .i64 y] 3)) (Bg (w:=W) 0) (Bg (w:=W) 1)
 have HI:=fun(x y:Int) (W:World)=>P2 x y W
 unfold lineCmp;clear hr ha hb hg;go_enter Tryz.func147,Tryz.ntmps147;go_wp2;generalize (w.alloc (.cells #[.string a.key,.slice aa na ca] 115)).alloc (.cells #[.string b.key,.slice ab nb cb] 115)=W at *;generalize w.heap.size=h at *
 have HK:∀(key:ByteArray) (W1:World),(Bw W W1∧W1.cell? ⟨g,0,none⟩=some (.slice ar nr cr)∧W1.cell? ⟨h,0,none⟩=some (.string a.key)∧W1.cell? ⟨h,1,none⟩=some (.slice aa na ca)∧W1.cell? ⟨h+1,0,none⟩=some (.string b.key)∧W1.cell? ⟨h+1,1,none⟩=some (.slice ab nb cb))→Calls Tryz.prog 149 #[.slice ar nr cr,.string key] W1 fun e w'=>e=.returned (.int .i64 (placeI (L.map Ce.plain) key))∧(Bw W w'∧w'.cell? ⟨g,0,none⟩=some (.slice ar nr cr)∧w'.cell? ⟨h,0,none⟩=some (.string a.key)∧w'.cell? ⟨h,1,none⟩=some (.slice aa na ca)∧w'.cell? ⟨h+1,0,none⟩=some (.string b.key)∧w'.cell? ⟨h+1,1,none⟩=some (.slice ab nb cb)) :=
  fun key W1 hS=>(Te key (hr1.below hS.1.1) (by omega)).mono fun e w' ⟨he,hG⟩=>⟨he,Mc hS hG⟩
 have HC:∀(W1:World),(Bw W W1∧W1.cell? ⟨g,0,none⟩=some (.slice ar nr cr)∧W1.cell? ⟨h,0,none⟩=some (.string a.key)∧W1.cell? ⟨h,1,none⟩=some (.slice aa na ca)∧W1.cell? ⟨h+1,0,none⟩=some (.string b.key)∧W1.cell? ⟨h+1,1,none⟩=some (.slice ab nb cb))→Calls Tryz.prog 150 #[.slice aa na ca,.slice ab nb cb] W1 fun e w'=>e=.returned (.int .i64 (Ga a.ws b.ws))∧w'=W1 :=
  fun W1 hS=>Mb (hna.symm ▸ ha1.below hS.1.1) (hnb.symm ▸ hb1.below hS.1.1) la lb
 have HS:Bw W W∧W.cell? ⟨g,0,none⟩=some (.slice ar nr cr)∧W.cell? ⟨h,0,none⟩=some (.string a.key)∧W.cell? ⟨h,1,none⟩=some (.slice aa na ca)∧W.cell? ⟨h+1,0,none⟩=some (.string b.key)∧W.cell? ⟨h+1,1,none⟩=some (.slice ab nb cb):=⟨Bw.refl _,hg1,c0,c1,d0,d1⟩;clear hr1 ha1 hb1 hna hnb hnr la lb hl hg1 c0 c1 d0 d1
 go_region_held3 (fun W'=>Bw W W'∧W'.cell? ⟨g,0,none⟩=some (.slice ar nr cr)∧W'.cell? ⟨h,0,none⟩=some (.string a.key)∧W'.cell? ⟨h,1,none⟩=some (.slice aa na ca)∧W'.cell? ⟨h+1,0,none⟩=some (.string b.key)∧W'.cell? ⟨h+1,1,none⟩=some (.slice ab nb cb))
  (first | assumption | exact Mc (by assumption) (Bw.drew1 _) | exact Mc (by assumption) ((Bw.refl _).alloc _) | exact Mc (by assumption) (((Bw.refl _).alloc _).drewN 1))
  (first | (go_at_call 149;refine(HK _ _ (by assumption)).mono ?_;rintro e wx ⟨rfl,hS1⟩) | (go_at_call 148;refine(HI _ _ _).mono ?_;rintro e wx ⟨rfl,rfl⟩) | (go_at_call 150;refine(HC _ (by assumption)).mono ?_;rintro e wx ⟨rfl,rfl⟩) | (go_at_call 115;refine(HO _ _ _).mono ?_;rintro e wx ⟨rfl,rfl⟩) | (go_at_call 115;refine(HP _ _ _).mono ?_;rintro e wx ⟨rfl,rfl⟩))
 all_goals
  rename_i hQ;have hG:=G.trans hQ.1;clear hQ;go_wp2;go_ret;exact⟨rfl,hG⟩
variable {α:Type}{D T bs:List BAt}{y:BAt}{a1 a2 a3 a4:Addr}{v1 v2 v3 v4 vr:Value}{ls:List LAt}
def Ai3{α:Type}(lt:α→α→Bool)(ls:List α):Prop:=∀ i a b,ls[i]?=some a→ls[i+1]?=some b→lt b a=false
def Dn{α:Type}(lt:α→α→Bool)(ls:List α)(k:Nat):Prop:=∀ i,k≤i→∀ a b,ls[i]?=some a→ls[i+1]?=some b→lt b a=false
open Classical in
noncomputable def Hq{α:Type}(lt:α→α→Bool)(ls:List α):Bool:=decide (Ai3 lt ls)
theorem Dn.last(lt:α→α→Bool)(ls:List α)(k:Nat)(h:ls.length≤k+1):Dn lt ls k:=by
 intro i hi a b _ hb;have:=(List.getElem?_eq_some_iff.1 hb).1;omega
theorem Dn.down{lt:α→α→Bool}{ls:List α}{a b:α}(h:Dn lt ls (k+1))(ha:ls[k]?=some a)(hb:ls[k+1]?=some b)(hn:lt b a=false):Dn lt ls k:=by
 intro i hi x y hx hy;by_cases e:i=k
 ·subst e;rw[ha]at hx;rw[hb]at hy;cases hx;cases hy;exact hn
 ·exact h i (by omega) x y hx hy
open Classical in
theorem Dn.all{lt:α→α→Bool}{ls:List α}(h:Dn lt ls 0):true=Hq lt ls:=by
 unfold Hq;rw[decide_eq_true];exact fun i a b ha hb=>h i (Nat.zero_le _) a b ha hb
open Classical in
theorem Aax{lt:α→α→Bool}{ls:List α}{a b:α}(ha:ls[k]?=some a)(hb:ls[k+1]?=some b)(hn:lt b a=true):false=Hq lt ls:=by
 unfold Hq;rw[decide_eq_false];intro h;rw[h k a b ha hb]at hn;cases hn
theorem Tf(L:List α)(k:Nat)(h:k+1<L.length):∃ D r s T,L=D++r::s::T∧D.length=k:=by
 obtain⟨D,r,T,rfl,hD⟩:=Br L k (by omega)
 match T,h with
 | [],h=>simp at h;omega
 | s::T,_=>exact⟨D,r,s,T,rfl,hD⟩
theorem Adr(D T:List α)(r s:α):(D++r::s::T)[D.length]?=some r∧(D++r::s::T)[D.length+1]?=some s:=by
 constructor
 ·simp
 ·rw[List.getElem?_append_right (by omega)];simp
theorem An.block2{cap:Nat}{x:BAt}(h:An w (.slice ao m cap) n 3 ((D++x::y::T).flatMap BAt.cells)):∃ b off,ao=some ⟨b,off,none⟩∧(w.cell? ⟨b,off+D.length * 3,none⟩=some (.string x.kind)∧w.cell? ⟨b,off+D.length * 3+1,none⟩=some (.string x.name)∧w.cell? ⟨b,off+D.length * 3+2,none⟩=some x.v)∧w.cell? ⟨b,off+(D.length+1) * 3,none⟩=some (.string y.kind)∧w.cell? ⟨b,off+(D.length+1) * 3+1,none⟩=some (.string y.name)∧w.cell? ⟨b,off+(D.length+1) * 3+2,none⟩=some y.v:=by
 obtain⟨b,off,rfl,h1⟩:=h.block;have h':An w (.slice (some ⟨b,off,none⟩) m cap) n 3 (((D++[x])++y::T).flatMap BAt.cells):=by rw[List.append_assoc];exact h
 obtain⟨b',off',e,h2⟩:=h'.block;cases e
 rw[List.length_append,List.length_singleton]at h2;exact⟨b,off,rfl,h1,h2⟩
theorem Iv{a5 a6:Addr}{v5 v6:Value}(hS:Bw W0 W∧W.cell? a1=some v1∧W.cell? a2=some v2∧W.cell? a3=some v3∧W.cell? a4=some v4∧W.cell? a5=some v5∧W.cell? a6=some v6)(G:Bw W W1):
  Bw W0 W1∧W1.cell? a1=some v1∧W1.cell? a2=some v2∧W1.cell? a3=some v3∧W1.cell? a4=some v4∧W1.cell? a5=some v5∧W1.cell? a6=some v6:=by
 obtain⟨h0,h1,h2,h3,h4,h5,h6⟩:=hS;have kc:∀ {a:Addr} {u:Value},W.cell? a=some u→W1.cell? a=some u:=fun hc=>(G.1.cell (World.block_lt_of_cell? W _ hc)).trans hc
 exact⟨h0.trans G,kc h1,kc h2,kc h3,kc h4,kc h5,kc h6⟩
theorem N1{c:Int}{B:Bool}(h:c<0↔B=true)(hb:B=true):c<0:=h.2 hb
theorem Md{c:Int}{B:Bool}(h:c<0↔B=true)(hb:B=false):¬ c<0:=fun q=>by rw[h.1 q]at hb;cases hb
theorem Nj(hb:Aw w v bs)(hl:bs.length≤1048576):Calls Tryz.prog 68 #[v,.func (.func 51) #[] #[]] w fun e w'=>e=.returned (.bool (Hq blockLt (bs.map BAt.plain)))∧Bw w w':=by
 obtain⟨ao,cap,rfl⟩:=hb.1.form;generalize hnn:bs.length=n at *;have hN:=Aa hnn;generalize hPL:bs.map BAt.plain=PL;have hP:=Aa hPL;clear hnn hPL;go_enter Tryz.func68,Tryz.ntmps68;go_wp2;go_loopw [5] (fun i wr=>∃ z:Int,-1≤z∧z<(n:Int)∧i=.int .i64 z∧Bw w wr∧Dn blockLt PL z.toNat) (fun i _=>(intOf i+1).toNat)
 case atStart=>exact⟨(n:Int) - 1,by omega,by omega,by go_num,Bw.refl _,Dn.last _ _ _ (by have:=hN.out;rw[← hP.out];simp;omega)⟩
 case round =>
  obtain⟨z,hz1,hz2,rfl,G,hA⟩:=hrel;by_cases hlt:0<z
  ·obtain⟨k,rfl⟩:∃ k:Nat,z=(k:Int)+1:=⟨(z - 1).toNat,by omega⟩;have hk:k+1<bs.length:=by have:=hN.out;omega
   obtain⟨D,r,s,T,rfl,hD⟩:=Tf bs k hk;obtain⟨g,off,rfl,⟨c1,c2,c3⟩,d1,d2,d3⟩:=(hb.below G.1).1.block2;obtain⟨a1,q1,e1⟩:=(hb.2 r (by simp)).1.form;obtain⟨a2,q2,e2⟩:=(hb.2 s (by simp)).1.form;have hrs:=Adr (D.map BAt.plain) (T.map BAt.plain) r.plain s.plain;rw[show D.map BAt.plain++r.plain::s.plain::T.map BAt.plain=PL from by rw[← hP.out];simp,List.length_map,hD]at hrs;rw[hD]at c1 c2 c3 d1 d2 d3;have hcmp:=Fw s.plain r.plain;rw[e1]at c3;rw[e2]at d3;have H:=fun W=>Gd s.kind s.name r.kind r.name s.ls.length r.ls.length q2 q1 a2 a1 W
   rw[show blockCmp s.plain.kind s.plain.name r.plain.kind r.plain.name=blockCmp s.kind s.name r.kind r.name from rfl]at hcmp;rw[show ((k:Int)+1).toNat=k+1 from by omega]at hA;have hS:Bw w wr∧wr.cell? ⟨g,off+k * 3,none⟩=some (.string r.kind)∧wr.cell? ⟨g,off+k * 3+1,none⟩=some (.string r.name)∧wr.cell? ⟨g,off+k * 3+2,none⟩=some (.slice a1 r.ls.length q1)∧wr.cell? ⟨g,off+(k+1) * 3,none⟩=some (.string s.kind)∧wr.cell? ⟨g,off+(k+1) * 3+1,none⟩=some (.string s.name)∧wr.cell? ⟨g,off+(k+1) * 3+2,none⟩=some (.slice a2 s.ls.length q2):=⟨G,c1,c2,c3,d1,d2,d3⟩;have hdn:blockLt s.plain r.plain=false→Dn blockLt PL k:=fun h=>hA.down hrs.1 hrs.2 h
   have hno:blockLt s.plain r.plain=true→false=Hq blockLt PL:=fun h=>Aax hrs.1 hrs.2 h
   clear hrs hA hb hk c1 c2 c3 d1 d2 d3 e1 e2 hN hP hD;generalize r.kind=rk at *;generalize r.name=rn at *;generalize r.ls.length=nr at *;generalize s.kind=sk at *;generalize s.name=sn at *;generalize s.ls.length=ns at *;generalize blockCmp sk sn rk rn=cr at *;have i0:(0:Int)≤(k:Int):=by omega
   have i1:(k:Int)<(n:Int):=by omega
   have i2:(0:Int)≤(k:Int)+1:=by omega
   have i3:(k:Int)+1<(n:Int):=by omega
   have i4:IntKind.i64.wrap (k:Int)=(k:Int):=by rw[IntKind.wrap_i64];omega
   have i5:((k:Int)+1).toNat=k+1:=by omega
   cases hlv:blockLt s.plain r.plain
   ·have HD:=hdn hlv;have hc:¬ cr<0:=Md hcmp hlv;clear hdn hno hcmp hlv;go_wp2
    go_region_held3 (fun W'=>Bw w W'∧W'.cell? ⟨g,off+k * 3,none⟩=some (.string rk)∧W'.cell? ⟨g,off+k * 3+1,none⟩=some (.string rn)∧W'.cell? ⟨g,off+k * 3+2,none⟩=some (.slice a1 nr q1)∧W'.cell? ⟨g,off+(k+1) * 3,none⟩=some (.string sk)∧W'.cell? ⟨g,off+(k+1) * 3+1,none⟩=some (.string sn)∧W'.cell? ⟨g,off+(k+1) * 3+2,none⟩=some (.slice a2 ns q2))
     (first | assumption | exact Iv (by assumption) (Bw.drew1 _) | exact Iv (by assumption) (by assumption))
     (first | (go_at_call 51;refine(H _).mono ?_;rintro e wx ⟨rfl,Gx⟩))
    all_goals
     rename_i hQ;have G1:=hQ.1;clear hQ hS Gx H;go_wp2;go_roundw;case rel=>exact⟨(k:Int),by omega,by omega,by go_num,G1,HD⟩
     case measure=>simp[intOf];omega
   ·have HD:=Aa (hno hlv);have hc:cr<0:=N1 hcmp hlv;clear hdn hno hcmp hlv;go_wp2
    go_region_held3 (fun W'=>Bw w W'∧W'.cell? ⟨g,off+k * 3,none⟩=some (.string rk)∧W'.cell? ⟨g,off+k * 3+1,none⟩=some (.string rn)∧W'.cell? ⟨g,off+k * 3+2,none⟩=some (.slice a1 nr q1)∧W'.cell? ⟨g,off+(k+1) * 3,none⟩=some (.string sk)∧W'.cell? ⟨g,off+(k+1) * 3+1,none⟩=some (.string sn)∧W'.cell? ⟨g,off+(k+1) * 3+2,none⟩=some (.slice a2 ns q2))
     (first | assumption | exact Iv (by assumption) (Bw.drew1 _) | exact Iv (by assumption) (by assumption))
     (first | (go_at_call 51;refine(H _).mono ?_;rintro e wx ⟨rfl,Gx⟩))
    all_goals
     rename_i hQ;have G1:=hQ.1;clear hQ hS Gx H;go_wp2;go_ret;exact⟨Av HD.out,G1⟩
  ·have HA:=Aa (show true=Hq blockLt PL from Dn.all (by rw[show z.toNat=0 from by omega]at hA;exact hA));clear hA hb;go_wp2;go_ret;exact⟨Av HA.out,G⟩
theorem An.line2{cap:Nat}{D T:List LAt}{x y:LAt}(h:An w (.slice ao m cap) n 2 ((D++x::y::T).flatMap LAt.cells)):∃ b off,ao=some ⟨b,off,none⟩∧(w.cell? ⟨b,off+D.length * 2,none⟩=some (.string x.key)∧w.cell? ⟨b,off+D.length * 2+1,none⟩=some x.v)∧w.cell? ⟨b,off+(D.length+1) * 2,none⟩=some (.string y.key)∧w.cell? ⟨b,off+(D.length+1) * 2+1,none⟩=some y.v:=by
 obtain⟨b,off,rfl,h1⟩:=h.line;have h':An w (.slice (some ⟨b,off,none⟩) m cap) n 2 (((D++[x])++y::T).flatMap LAt.cells):=by rw[List.append_assoc];exact h
 obtain⟨b',off',e,h2⟩:=h'.line;cases e
 rw[List.length_append,List.length_singleton]at h2;exact⟨b,off,rfl,h1,h2⟩
theorem Ht(hS:Bw W0 W∧W.cell? a1=some v1∧W.cell? a2=some v2∧W.cell? a3=some v3∧W.cell? a4=some v4)(G:Bw W W1):
  Bw W0 W1∧W1.cell? a1=some v1∧W1.cell? a2=some v2∧W1.cell? a3=some v3∧W1.cell? a4=some v4:=by
 obtain⟨h0,h1,h2,h3,h4⟩:=hS;have kc:∀ {a:Addr} {u:Value},W.cell? a=some u→W1.cell? a=some u:=fun hc=>(G.1.cell (World.block_lt_of_cell? W _ hc)).trans hc
 exact⟨h0.trans G,kc h1,kc h2,kc h3,kc h4⟩
theorem Ok{RL:List Ce}(gr:Nat)(hb:Ah w v ls)(hl:ls.length≤1048576)(hw:∀ x∈ls,x.ws.length≤1048576)(hr:Gc w vr RL)(h12:RL.length≤12)(hgr:w.cell? ⟨gr,0,none⟩=some vr):Calls Tryz.prog 136 #[v,.func (.func 147) #[] #[.pointer (some ⟨gr,0,none⟩)]] w fun e w'=>e=.returned (.bool (Hq (lineLt (RL.map Ce.plain)) (ls.map LAt.plain)))∧Bw w w':=by
 obtain⟨ao,cap,rfl⟩:=hb.1.form;generalize hnn:ls.length=n at *;have hN:=Aa hnn;generalize hPL:ls.map LAt.plain=PL;have hP:=Aa hPL;clear hnn hPL;go_enter Tryz.func136,Tryz.ntmps136;go_wp2;go_loopw [5] (fun i wr=>∃ z:Int,-1≤z∧z<(n:Int)∧i=.int .i64 z∧Bw w wr∧Dn (lineLt (RL.map Ce.plain)) PL z.toNat) (fun i _=>(intOf i+1).toNat)
 case atStart=>exact⟨(n:Int) - 1,by omega,by omega,by go_num,Bw.refl _,Dn.last _ _ _ (by have:=hN.out;rw[← hP.out];simp;omega)⟩
 case round =>
  obtain⟨z,hz1,hz2,rfl,G,hA⟩:=hrel;by_cases hlt:0<z
  ·obtain⟨k,rfl⟩:∃ k:Nat,z=(k:Int)+1:=⟨(z - 1).toNat,by omega⟩;have hk:k+1<ls.length:=by have:=hN.out;omega
   obtain⟨D,r,s,T,rfl,hD⟩:=Tf ls k hk;obtain⟨g,off,rfl,⟨c1,c2⟩,d1,d2⟩:=(hb.below G.1).1.line2;obtain⟨a1,q1,e1⟩:=(hb.2 r (by simp)).form;obtain⟨a2,q2,e2⟩:=(hb.2 s (by simp)).form;have hrs:=Adr (D.map LAt.plain) (T.map LAt.plain) r.plain s.plain;rw[show D.map LAt.plain++r.plain::s.plain::T.map LAt.plain=PL from by rw[← hP.out];simp,List.length_map,hD]at hrs;rw[hD]at c1 c2 d1 d2;have hcmp:=H9 (RL.map Ce.plain) s.plain r.plain;rw[e1]at c2;rw[e2]at d2
   have H:∀ W,Bw w W→Calls Tryz.prog 147 #[.agg #[.string s.key,.slice a2 s.ws.length q2],.agg #[.string r.key,.slice a1 r.ws.length q1],.pointer (some ⟨gr,0,none⟩)] W fun e w'=>e=.returned (.int .i64 (lineCmp (RL.map Ce.plain) s.plain r.plain))∧Bw W w' :=
    fun W gW=>Lc s.plain r.plain gr (hr.below gW.1) h12 ((gW.1.cell (World.block_lt_of_cell? w _ hgr)).trans hgr) (e2 ▸ (hb.2 s (by simp)).below gW.1) (e1 ▸ (hb.2 r (by simp)).below gW.1) (hw s (by simp)) (hw r (by simp))
   rw[show ((k:Int)+1).toNat=k+1 from by omega]at hA;have hS:Bw w wr∧wr.cell? ⟨g,off+k * 2,none⟩=some (.string r.key)∧wr.cell? ⟨g,off+k * 2+1,none⟩=some (.slice a1 r.ws.length q1)∧wr.cell? ⟨g,off+(k+1) * 2,none⟩=some (.string s.key)∧wr.cell? ⟨g,off+(k+1) * 2+1,none⟩=some (.slice a2 s.ws.length q2):=⟨G,c1,c2,d1,d2⟩;have hdn:(lineLt (RL.map Ce.plain)) s.plain r.plain=false→Dn (lineLt (RL.map Ce.plain)) PL k:=fun h=>hA.down hrs.1 hrs.2 h
   have hno:(lineLt (RL.map Ce.plain)) s.plain r.plain=true→false=Hq (lineLt (RL.map Ce.plain)) PL:=fun h=>Aax hrs.1 hrs.2 h
   clear hrs hA hb hk c1 c2 d1 d2 e1 e2 hN hP hD hr hgr hw h12;generalize r.key=rk at *;generalize r.ws.length=nr at *;generalize s.key=sk at *;generalize s.ws.length=ns at *;generalize lineCmp (RL.map Ce.plain) s.plain r.plain=cr at *;have i0:(0:Int)≤(k:Int):=by omega
   have i1:(k:Int)<(n:Int):=by omega
   have i2:(0:Int)≤(k:Int)+1:=by omega
   have i3:(k:Int)+1<(n:Int):=by omega
   have i4:IntKind.i64.wrap (k:Int)=(k:Int):=by rw[IntKind.wrap_i64];omega
   have i5:((k:Int)+1).toNat=k+1:=by omega
   cases hlv:(lineLt (RL.map Ce.plain)) s.plain r.plain
   ·have HD:=hdn hlv;have hc:¬ cr<0:=Md hcmp hlv;clear hdn hno hcmp hlv;go_wp2
    go_region_held3 (fun W'=>Bw w W'∧W'.cell? ⟨g,off+k * 2,none⟩=some (.string rk)∧W'.cell? ⟨g,off+k * 2+1,none⟩=some (.slice a1 nr q1)∧W'.cell? ⟨g,off+(k+1) * 2,none⟩=some (.string sk)∧W'.cell? ⟨g,off+(k+1) * 2+1,none⟩=some (.slice a2 ns q2))
     (first | assumption | exact Ht (by assumption) (Bw.drew1 _) | exact Ht (by assumption) (by assumption))
     (first | (go_at_call 147;refine(H _ (And.left (by assumption))).mono ?_;rintro e wx ⟨rfl,Gx⟩))
    all_goals
     rename_i hQ;have G1:=hQ.1;clear hQ hS Gx H;go_wp2;go_roundw;case rel=>exact⟨(k:Int),by omega,by omega,by go_num,G1,HD⟩
     case measure=>simp[intOf];omega
   ·have HD:=Aa (hno hlv);have hc:cr<0:=N1 hcmp hlv;clear hdn hno hcmp hlv;go_wp2
    go_region_held3 (fun W'=>Bw w W'∧W'.cell? ⟨g,off+k * 2,none⟩=some (.string rk)∧W'.cell? ⟨g,off+k * 2+1,none⟩=some (.slice a1 nr q1)∧W'.cell? ⟨g,off+(k+1) * 2,none⟩=some (.string sk)∧W'.cell? ⟨g,off+(k+1) * 2+1,none⟩=some (.slice a2 ns q2))
     (first | assumption | exact Ht (by assumption) (Bw.drew1 _) | exact Ht (by assumption) (by assumption))
     (first | (go_at_call 147;refine(H _ (And.left (by assumption))).mono ?_;rintro e wx ⟨rfl,Gx⟩))
    all_goals
     rename_i hQ;have G1:=hQ.1;clear hQ hS Gx H;go_wp2;go_ret;exact⟨Av HD.out,G1⟩
  ·have HA:=Aa (show true=Hq (lineLt (RL.map Ce.plain)) PL from Dn.all (by rw[show z.toNat=0 from by omega]at hA;exact hA));clear hA hb hr hgr hw;go_wp2;go_ret;exact⟨Av HA.out,G⟩
variable {kind name:ByteArray}{es:List PBlock}
def C9(bs:List BAt)(kind name:ByteArray)(k:Nat):Prop:=∀ b∈bs.take k,(b.kind.toList == kind.toList && b.name.toList == name.toList)=false
theorem C9.zero(bs:List BAt)(kind name:ByteArray):C9 bs kind name 0:=by simp[C9]
theorem C9.succ{r:BAt}(h:C9 (D++r::T) kind name D.length)(hr:(r.kind.toList == kind.toList && r.name.toList == name.toList)=false):C9 (D++r::T) kind name (D.length+1):=by
 unfold C9 at *;rw[List.take_append_of_le_length (Nat.le_refl _),List.take_length]at h;rw[List.take_append,List.take_of_length_le (by omega),show D.length+1 - D.length=1 from by omega];intro s hs;simp only[List.take_succ_cons,List.take_zero,List.mem_append,List.mem_singleton]at hs;rcases hs with hs | rfl
 ·exact h s hs
 ·exact hr
theorem P9(h:(rulesOf kind).length=0):(3:Int)=headFault es kind name:=by unfold headFault;rw[if_pos h]
theorem Qa(h:¬ (rulesOf kind).length=0)(h2:nameB name.data.toList=false):(4:Int)=headFault es kind name:=by unfold headFault;rw[if_neg h,if_pos h2]
theorem Om(h:¬ (rulesOf kind).length=0)(h2:nameB name.data.toList=true){o:PBlock}(ho:o∈es)(h3:(o.kind.toList == kind.toList && o.name.toList == name.toList)=true):(9:Int)=headFault es kind name:=by
 unfold headFault;rw[if_neg h,if_neg (by simp[h2]),if_pos];rw[List.any_eq_true];exact⟨o,ho,h3⟩
theorem C9.fault(h:¬ (rulesOf kind).length=0)(h2:nameB name.data.toList=true)(h3:C9 bs kind name bs.length):(if 60≤bs.length then (10:Int) else 0)=headFault (bs.map BAt.plain) kind name:=by
 unfold C9 at h3;rw[List.take_length]at h3;have hany:(bs.map BAt.plain).any (fun o=>o.kind.toList == kind.toList && o.name.toList == name.toList)=false:=by
  rw[List.any_eq_false];intro o ho;obtain⟨b,hb,rfl⟩:=List.mem_map.1 ho;rw[show (b.plain.kind.toList == kind.toList && b.plain.name.toList == name.toList)=false from h3 b hb];decide
 unfold headFault
 symm
 rw[if_neg h,if_neg (by simp[h2]),hany,if_neg (by decide),List.length_map]
theorem Ld(kind name:ByteArray)(hb:Aw w v bs)(hl:bs.length≤1048576)(hn:name.size≤1048576):Calls Tryz.prog 66 #[v,.string kind,.string name] w fun e w'=>e=.returned (.int .i64 (headFault (bs.map BAt.plain) kind name))∧Below w.heap.size w w':=by
 obtain⟨ao,cap,rfl⟩:=hb.1.form;generalize hPL:bs.map BAt.plain=PL;have hP:=Aa hPL;generalize hnn:bs.length=n at *;have hN:=Aa hnn;clear hnn hPL;have HS:=G6 kind w;have HI:=fun W=>Pr name W hn
 by_cases hR:(rulesOf kind).length=0
 ·have HF:=Aa (P9 (es:=PL) (name:=name) hR);generalize headFault PL kind name=F at *;go_enter Tryz.func66,Tryz.ntmps66;go_wp2_with (go_at_call 29;refine HS.mono ?_)
  rintro e w1 ⟨vr,L,rfl,hp,hr,b1⟩;obtain⟨ar,cr,rfl,_⟩:=Ai (show w1.ownsRow w.heap.size 54 4 vr L.length (L.flatMap Ce.cells) from A8.head hr);have hL0:L.length=0:=by rw[← hp,List.length_map]at hR;exact hR
  generalize L.length=m at *;subst hL0;clear HS hr hp hR hb;go_wp2;go_ret;exact⟨Dp HF.out,b1⟩
 have hRp:Hid (¬ (rulesOf kind).length=0):=Aa hR;cases hnm:nameB name.data.toList
 ·have HF:=Aa (Qa (es:=PL) hR hnm);rw[hnm]at HI;generalize headFault PL kind name=F at *;go_enter Tryz.func66,Tryz.ntmps66;go_wp2_with (go_at_call 29;refine HS.mono ?_)
  rintro e w1 ⟨vr,L,rfl,hp,hr,b1⟩;obtain⟨ar,cr,rfl,_⟩:=Ai (show w1.ownsRow w.heap.size 54 4 vr L.length (L.flatMap Ce.cells) from A8.head hr);have hL0:¬ L.length=0:=by rw[← hp,List.length_map]at hR;exact hR
  generalize L.length=m at *;have hm:((m:Int) == 0)=false:=by rw[beq_eq_false_iff_ne];omega
  clear HS hr hp hR hb;go_wp2_with (go_at_call 134;refine(HI _).mono ?_;rintro e w ⟨rfl,rfl⟩)
  go_ret;exact⟨Dp HF.out,b1⟩
 ·rw[hnm]at HI;have hF:=fun(h:C9 bs kind name bs.length)=>C9.fault hR hnm h
  have hG:=fun(o:PBlock) (ho:o∈PL) (h3:(o.kind.toList == kind.toList && o.name.toList == name.toList)=true)=>Om hR hnm ho h3
  rw[hP.out]at hF;generalize headFault PL kind name=F at *;go_enter Tryz.func66,Tryz.ntmps66;go_wp2_with (go_at_call 29;refine HS.mono ?_)
  rintro e w1 ⟨vr,L,rfl,hp,hr,b1⟩;obtain⟨ar,cr,rfl,_⟩:=Ai (show w1.ownsRow w.heap.size 54 4 vr L.length (L.flatMap Ce.cells) from A8.head hr);have hL0:¬ L.length=0:=by rw[← hp,List.length_map]at hR;exact hR
  generalize L.length=m at *;have hm:((m:Int) == 0)=false:=by rw[beq_eq_false_iff_ne];omega
  clear HS hr hp hR hnm;go_wp2_with (go_at_call 134;refine(HI _).mono ?_;rintro e w1 ⟨rfl,rfl⟩)
  clear HI;go_loopw [18] (fun i wr=>∃ j:Nat,j≤n∧i=.int .i64 (j:Int)∧Below w.heap.size w wr∧C9 bs kind name j) (fun i _=>n - (intOf i).toNat)
  case atStart=>exact⟨0,by omega,rfl,b1,C9.zero _ _ _⟩
  case round =>
   obtain⟨j,hj,rfl,hbw,hA⟩:=hrel;by_cases hlt:j<n
   ·obtain⟨D,r,T,rfl,hD⟩:=Br bs j (by have:=hN.out;omega);obtain⟨g,off,rfl,c1,c2,c3⟩:=(hb.below hbw).1.block;obtain⟨a1,q1,e1⟩:=(hb.2 r (by simp)).1.form;have hmem:r.plain∈PL:=by rw[← hP.out];simp
    have hgr:=hG r.plain hmem;rw[show r.plain.kind=r.kind from rfl,show r.plain.name=r.name from rfl]at hgr;rw[e1]at c3;subst hD;have hsu:=fun h=>hA.succ (r:=r) h
    generalize r.ls.length=nr at *;generalize r.kind=rk at *;generalize r.name=rn at *;clear hA hb hF hG hmem;have b2:=hbw.alloc hbw.size (.cells #[.string rk,.string rn,.slice a1 nr q1] 46);cases hk1:(rk.toList == kind.toList)
    ·have HA:=hsu (by rw[hk1];rfl);clear hsu hgr;go_wp2;go_roundw;case rel=>exact⟨D.length+1,by omega,by go_num,b2,HA⟩
     case measure=>simp[intOf];omega
    ·cases hk2:(rn.toList == name.toList)
     ·have HA:=hsu (by rw[hk1,hk2];rfl);clear hsu hgr;go_wp2;go_roundw;case rel=>exact⟨D.length+1,by omega,by go_num,b2,HA⟩
      case measure=>simp[intOf];omega
     ·have HA:=Aa (hgr (by rw[hk1,hk2];rfl));clear hsu hgr;go_wp2;go_ret;exact⟨Dp HA.out,b2⟩
   ·obtain rfl:j=n:=by omega
    have hA':=hF (by rw[hN.out];exact hA);rw[hN.out]at hA';clear hA hb hF hG;by_cases h60:60≤j
    ·rw[if_pos h60]at hA';have HA:=Aa hA';clear hA';go_wp2;go_ret;exact⟨Dp HA.out,hbw⟩
    ·rw[if_neg h60]at hA';have HA:=Aa hA';clear hA';go_wp2;go_ret;exact⟨Dp HA.out,hbw⟩
variable {ys:List (List UInt8)}{ca cb c:Nat}{bo:Option Addr}{many:Bool}{R:List Plain}{vl:Value}
def De(xs ys:List (List UInt8))(k:Nat):Prop:=xs.take k=ys.take k
theorem De.zero(xs ys:List (List UInt8)):De xs ys 0:=by simp[De]
theorem De.succ{xs:List (List UInt8)}(h:De xs ys k)(h1:k<xs.length)(h2:k<ys.length)(e:(xs[k] == ys[k])=true):De xs ys (k+1):=by
 unfold De at *;rw[List.take_succ_eq_append_getElem h1,List.take_succ_eq_append_getElem h2,h,beq_iff_eq.1 e]
theorem Ads{xs:List (List UInt8)}(h1:k<xs.length)(h2:k<ys.length)(e:(xs[k] == ys[k])=false):false=decide (xs=ys):=by
 rw[decide_eq_false];intro h;subst h;simp at e
theorem De.all{xs:List (List UInt8)}(h:De xs ys xs.length)(hl:xs.length=ys.length):true=decide (xs=ys):=by
 unfold De at h;rw[decide_eq_true];rw[List.take_length]at h;rw[h,hl,List.take_length]
theorem Jz{xs:List (List UInt8)}(h1:An w (.slice ao n ca) xs.length 1 (strs xs))(h2:An w (.slice bo m cb) ys.length 1 (strs ys))(hn:n≤1048576)(hm:m≤1048576):Calls Tryz.prog 127 #[.slice ao n ca,.slice bo m cb] w fun e w'=>e=.returned (.bool (decide (xs=ys)))∧∃ q,w'=w.drewN q:=by
 have en:=Aa (show n=xs.length by obtain⟨_,_,_,e,_⟩:=h1;cases e;rfl);have em:=Aa (show m=ys.length by obtain⟨_,_,_,e,_⟩:=h2;cases e;rfl);by_cases hnm:n=m
 ·subst hnm;have hn0:((n:Int) != (n:Int))=false:=by simp
  go_enter Tryz.func127,Tryz.ntmps127;go_wp2;go_loopw [13] (fun i wr=>∃ k q:Nat,k≤n∧i=.int .i64 (k:Int)∧wr=w.drewN q∧De xs ys k) (fun i _=>n - (intOf i).toNat)
  case atStart=>exact⟨0,0,by omega,rfl,rfl,De.zero _ _⟩
  case round =>
   obtain⟨k,q,hk,rfl,rfl,hA⟩:=hrel;by_cases hlt:k<n
   ·have lk:k<xs.length:=by have:=en.out;omega
    have lk2:k<ys.length:=by have:=em.out;omega
    obtain⟨b,off,rfl,c1⟩:=h1.word k lk;obtain⟨b2,off2,rfl,c2⟩:=h2.word k lk2;have e1:(ByteArray.mk xs[k].toArray).toList=xs[k]:=by rw[ByteArray.toList_eq]
    have e2:(ByteArray.mk ys[k].toArray).toList=ys[k]:=by rw[ByteArray.toList_eq]
    cases he:(xs[k] == ys[k])
    ·have HA:=Aa (Ads lk lk2 he);rw[← e1,← e2]at he;generalize (⟨xs[k].toArray⟩:ByteArray)=x at *;generalize (⟨ys[k].toArray⟩:ByteArray)=y at *;clear hA h1 h2 e1 e2;go_wp2;go_quiet (fail)
     go_wp2;go_ret;exact⟨Av HA.out,_,by first | rfl | exact World.drewN_drewN _ _ _⟩
    ·have HA:=hA.succ lk lk2 he;rw[← e1,← e2]at he;generalize (⟨xs[k].toArray⟩:ByteArray)=x at *;generalize (⟨ys[k].toArray⟩:ByteArray)=y at *;clear hA h1 h2 e1 e2;go_wp2;go_quiet (fail)
     go_wp2;go_roundw;case rel=>exact⟨k+1,_,by omega,by go_num,by first | rfl | exact World.drewN_drewN _ _ _,HA⟩
     case measure=>simp[intOf];omega
   ·obtain rfl:k=n:=by omega
    have HA:=Aa (De.all (en.out ▸ hA) (en.out.symm.trans em.out));clear hA h1 h2;go_wp2;go_ret;exact⟨Av HA.out,q,rfl⟩
 ·have hn0:((n:Int) != (m:Int))=true:=by rw[bne_iff_ne];omega
  have HA:=Aa (show false=decide (xs=ys) by rw[decide_eq_false];rintro rfl;exact hnm (en.out.trans em.out.symm));clear h1 h2;go_enter Tryz.func127,Tryz.ntmps127;go_wp2;go_ret;exact⟨Av HA.out,0,rfl⟩
def Gp(many:Bool)(es:List LAt)(a:PLine)(k c:Nat):Prop:=c=keyN ((es.take k).map LAt.plain) a.key∧∀ o∈es.take k,(o.key.toList == a.key.toList && (!many || decide (o.ws=a.ws)))=false
theorem Gp.zero(many:Bool)(es:List LAt)(a:PLine):Gp many es a 0 0:=⟨by simp[keyN],by simp⟩
theorem Cq(D T:List α)(r:α):(D++r::T).take (D.length+1)=D++[r]:=by
 rw[List.take_append,List.take_of_length_le (by omega),show D.length+1 - D.length=1 from by omega];rfl
theorem Ch(D T:List α):(D++T).take D.length=D:=by
 rw[List.take_append_of_le_length (Nat.le_refl _),List.take_length]
theorem Gp.other{D T:List LAt}{r:LAt}{a:PLine}(h:Gp many (D++r::T) a D.length c)(hk:(r.key.toList == a.key.toList)=false):Gp many (D++r::T) a (D.length+1) c:=by
 obtain⟨h1,h2⟩:=h;rw[Ch]at h1 h2;refine⟨?_,?_⟩
 ·rw[Cq,List.map_append,Ex,← h1,List.map_singleton,Ke,if_neg]
  ·rfl
  ·intro e;rw[show r.plain.key=r.key from rfl]at e;rw[e]at hk;simp at hk
 ·rw[Cq];intro o ho;rcases List.mem_append.1 ho with ho | ho
  ·exact h2 o ho
  ·rw[List.mem_singleton.1 ho,hk];rfl
theorem Gp.count{D T:List LAt}{r:LAt}{a:PLine}(h:Gp many (D++r::T) a D.length c)(hk:(r.key.toList == a.key.toList)=true)(hm:many=true)(hw:decide (r.ws=a.ws)=false):Gp many (D++r::T) a (D.length+1) (c+1):=by
 obtain⟨h1,h2⟩:=h;rw[Ch]at h1 h2;refine⟨?_,?_⟩
 ·rw[Cq,List.map_append,Ex,← h1,List.map_singleton,Ke,if_pos];exact toList_inj (show r.key.toList=a.key.toList by simpa using hk)
 ·rw[Cq];intro o ho;rcases List.mem_append.1 ho with ho | ho
  ·exact h2 o ho
  ·rw[List.mem_singleton.1 ho,hk,hm,hw];rfl
theorem Y7{p:Plain}{D T:List LAt}{r:LAt}{a:PLine}(hp:Cp R a.key=some p)(hf:C0 p.2.1 a.ws=true)(hk:(r.key.toList == a.key.toList)=true)(hw:(!p.2.2.1 || decide (r.ws=a.ws))=true):(6:Int)=lineFault R ((D++r::T).map LAt.plain) a:=by
 have hm:Fe R a.key=p.2.2.1:=by unfold Fe;rw[hp]
 unfold lineFault;rw[if_neg (by rw[hp];simp),if_neg (by rw[Hf _ hp,hf];simp),if_pos];rw[List.any_eq_true];refine⟨r.plain,by simp,?_⟩;rw[hm,show r.plain.key=r.key from rfl,show r.plain.ws=r.ws from rfl,hk,hw];rfl
theorem Gp.fault{p:Plain}{es:List LAt}{a:PLine}(h:Gp p.2.2.1 es a es.length c)(hp:Cp R a.key=some p)(hf:C0 p.2.1 a.ws=true):(if 10≤c then (10:Int) else 0)=lineFault R (es.map LAt.plain) a:=by
 obtain⟨h1,h2⟩:=h;rw[List.take_length]at h1 h2;have hm:Fe R a.key=p.2.2.1:=by unfold Fe;rw[hp]
 have hany:(es.map LAt.plain).any (fun o=>o.key.toList == a.key.toList && (!Fe R a.key || decide (o.ws=a.ws)))=false:=by
  rw[List.any_eq_false];intro o ho;obtain⟨b,hb,rfl⟩:=List.mem_map.1 ho;rw[hm,show (b.plain.key.toList == a.key.toList && (!p.2.2.1 || decide (b.plain.ws=a.ws)))=false from h2 b hb];decide
 unfold lineFault
 symm
 rw[if_neg (by rw[hp];simp),if_neg (by rw[Hf _ hp,hf];simp),hany,if_neg (by decide),h1]
theorem Ri{es:List PLine}{a:PLine}(hp:Cp R a.key=none):(5:Int)=lineFault R es a:=by unfold lineFault;rw[if_pos hp]
theorem Qb{p:Plain}{es:List PLine}{a:PLine}(hp:Cp R a.key=some p)(hf:C0 p.2.1 a.ws=false):(7:Int)=lineFault R es a:=by
 unfold lineFault;rw[if_neg (by rw[hp];simp),if_pos (by rw[Hf _ hp,hf])]
theorem Ky{T:TypeId}(hb:Below (w.heap.size+1) (w.alloc (.cells cs T)) w')(j:Nat):w'.cell? ⟨w.heap.size,j,none⟩=cs[j]?:=by
 unfold World.cell?;rw[show w'.heap[w.heap.size]?=some (.cells cs T (0,0)) from(hb.block _ (by omega)).trans (Al _ _)];rfl
theorem Hg(w:World)(o:Obj):(w.alloc o).heap.size=w.heap.size+1:=by simp
theorem Rj{vw:Value}{L:List Ce}{es:List LAt}(a:PLine)(hr:Cm B w vr L)(hsm:Adl (L.map Ce.plain))(hes:Ah w vl es)(hel:es.length≤1048576)(hew:∀ x∈es,x.ws.length≤1048576)(hx:An w vw a.ws.length 1 (strs a.ws))(hxl:a.ws.length≤1048576)(hxs:∀ x∈a.ws,x.length≤1048576)(hst:Dx w):
  Calls Tryz.prog 135 #[vr,vl,.agg #[.string a.key,vw]] w fun e w'=>e=.returned (.int .i64 (lineFault (L.map Ce.plain) (es.map LAt.plain) a))∧Below w.heap.size w w':=by
 obtain⟨aw,cw,rfl⟩:=hx.form;obtain⟨al,cl,rfl⟩:=hes.1.form;have hl12:L.length≤12:=by have:=hsm.1;rwa [List.length_map]at this
 have b0:Below w.heap.size w (w.alloc (.cells #[.string a.key,.slice aw a.ws.length cw] 115)):=(Below.refl _ _).alloc (Nat.le_refl _) _;have hrA:Cm B (w.alloc (.cells #[.string a.key,.slice aw a.ws.length cw] 115)) vr L:=A8.below hr b0;have HF:=Td a.key hrA hl12;have hc0:=Bg (w:=w) (cs:=#[.string a.key,.slice aw a.ws.length cw]) (T:=115);generalize hnw:a.ws.length=nw at *;generalize hne:es.length=ne at *;generalize hF:lineFault (L.map Ce.plain) (es.map LAt.plain) a=F;have hFF:=Aa hF;have hNE:=Aa hne;clear hF hne;go_enter Tryz.func135,Tryz.ntmps135;go_wp2_with (go_at_call 93;refine HF.mono ?_)
 rintro e w2 ⟨b2,⟨hn,rfl⟩ | ⟨r,hrL,hn,rfl⟩⟩
 ·have HA:=Aa ((Ri (es:=es.map LAt.plain) hn).trans hFF.out);have b3:Below w.heap.size w (w2.alloc (.cells #[.string ⟨#[]⟩,.slice none 0 0,.bool false,.slice none 0 0] 54)):=(b0.trans (b2.mono (by simp))).alloc (Nat.le_trans b0.size b2.size) _;clear HF hr hn hsm hes hx hst hrA hew hxs hc0;go_wp2;go_ret;exact⟨Dp HA.out,b3⟩
 ·obtain⟨D,T,rfl⟩:=List.append_of_mem hrL;have hr2:=(Cm.rm hrA).below b2;have o1:=hr2.args;have o2:=hr2.defs;have hsp:=hsm.2 r.plain (by simp);have hFa:=fun h=>(Qb (es:=es.map LAt.plain) hn h).trans hFF.out
  have hFb:=fun D' T' (x:LAt) (e:es=D'++x::T') hf hk hw=>(Y7 (R:=(D++r::T).map Ce.plain) (D:=D') (T:=T') (r:=x) hn hf hk hw).trans (e ▸ hFF.out)
  have hFc:=fun c (h:Gp r.plain.2.2.1 es a es.length c) hf=>(h.fault hn hf).trans hFF.out
  obtain⟨rk,va,ns,many,vd,ds⟩:=r;simp only[Ce.plain]at o1 o2 hsp hFa hFb hFc;generalize hns:ns.length=p at o1 hsp;generalize hds:ds.length=q at o2;obtain⟨bo,ca,rfl,_⟩:=Ai o1;obtain⟨co,cb,rfl,_⟩:=Ai o2;have b2':Below (w.heap.size+1) (w.alloc (.cells #[.string a.key,.slice aw nw cw] 115)) w2:=by rw[← Hg];exact b2
  have b02:Below w.heap.size w w2:=b0.trans (b2.mono (by simp));have hlt5:w.heap.size<w2.heap.size:=by have:=b2'.size;rw[Hg]at this;omega
  have b3:=b02.alloc b02.size (.cells #[.string rk,.slice bo p ca,.bool many,.slice co q cb] 54);have g3:Below w2.heap.size w2 (w2.alloc (.cells #[.string rk,.slice bo p ca,.bool many,.slice co q cb] 54)):=(Below.refl _ _).alloc (Nat.le_refl _) _;have p0:=(g3.cell (p:=⟨w.heap.size,0,none⟩) hlt5).trans (Ky b2' 0);have p1:=(g3.cell (p:=⟨w.heap.size,1,none⟩) hlt5).trans (Ky b2' 1);have q2:=Bg (w:=w2) (cs:=#[.string rk,.slice bo p ca,.bool many,.slice co q cb]) (T:=54) 2;have q3:=Hg w2 (.cells #[.string rk,.slice bo p ca,.bool many,.slice co q cb] 54);simp only[List.getElem?_toArray,List.getElem?_cons_zero,List.getElem?_cons_succ]at p0 p1 q2;have HT:=Rc (key:=rk) (many:=many) (bo:=co) (m:=q) (cb:=cb) (o1.alloc (.cells #[.string rk,.slice bo p ca,.bool many,.slice co q cb] 54)) (hx.below b3) (by have:=hsp.1;omega) hxl hsp.2 hxs (hst.below b3);clear HF hr hr2 hn hsm hst hsp o1 o2 hrL hrA hc0 g3 b2 b2' hFF;cases hf:C0 ns a.ws
  ·have HA:=Aa (hFa hf);rw[hf]at HT;clear hFa hFb hFc hes hx hew hxs;go_wp2_with (go_at_call 180;refine HT.mono ?_;rintro e w4 ⟨rfl,b4⟩)
   go_ret;exact⟨Dp HA.out,b3.trans (b4.mono b3.size)⟩
  ·have hFb':=fun D' T' (x:LAt) e hk hw=>hFb D' T' x e hf hk hw
   have hFc':=fun c h=>hFc c h hf
   rw[hf]at HT;clear hFa hFb hFc;go_wp2_with (go_at_call 180;refine HT.mono ?_;rintro e w4 ⟨rfl,b4⟩)
   clear HT;have b04:=b3.trans (b4.mono b3.size);have p0':=(b4.cell (p:=⟨w.heap.size,0,none⟩) (by rw[q3];exact Nat.lt_succ_of_lt hlt5)).trans p0;have p1':=(b4.cell (p:=⟨w.heap.size,1,none⟩) (by rw[q3];exact Nat.lt_succ_of_lt hlt5)).trans p1;have q2':=(b4.cell (p:=⟨w2.heap.size,2,none⟩) (by rw[q3];exact Nat.lt_succ_self _)).trans q2;clear p0 p1 q2 q3 b3 b4;go_loopw [9,28] (fun sc i wr=>∃ j c:Nat,j≤ne∧c≤j∧i=.int .i64 (j:Int)∧sc=.int .i64 (c:Int)∧Below w4.heap.size w4 wr∧Gp many es a j c) (fun _ i _=>ne - (intOf i).toNat)
   case atStart=>exact⟨0,0,by omega,by omega,rfl,rfl,Below.refl _ _,Gp.zero _ _ _⟩
   case round =>
    obtain⟨j,c,hj,hcj,rfl,rfl,hbw,hA⟩:=hrel;have b5:=b04.trans (hbw.mono b04.size);by_cases hlt:j<ne
    ·obtain⟨D',x,T',rfl,hD⟩:=Br es j (by have:=hNE.out;omega);obtain⟨g,off,rfl,c1,c2⟩:=(hes.below b5).1.line;have hxi:=(hes.below b5).2 x (by simp);have hxw:=hew x (by simp);obtain⟨ax,cx,e1⟩:=hxi.form;have hx5:=hx.below b5;unfold Dm at hxi;rw[e1]at hxi c2;have hTw:=hFb' D' T' x rfl;have l4:=World.block_lt_of_cell? w4 _ p0';have l5:=World.block_lt_of_cell? w4 _ q2';have g6:Below wr.heap.size wr (wr.alloc (.cells #[.string x.key,.slice ax x.ws.length cx] 115)):=(Below.refl _ _).alloc (Nat.le_refl _) _;have b6:=b5.trans (g6.mono b5.size);have b46:=hbw.trans (g6.mono hbw.size);have r0:=(b46.cell (p:=⟨w.heap.size,0,none⟩) l4).trans p0';have r1:=(b46.cell (p:=⟨w.heap.size,1,none⟩) l4).trans p1';have r2:=(b46.cell (p:=⟨w2.heap.size,2,none⟩) l5).trans q2';have hxi6:=hxi.below g6;have hx6:=hx5.below g6;subst hD;have hA1:=fun h=>hA.other (r:=x) h
     have hA2:=fun h1 h2 h3=>hA.count (r:=x) h1 h2 h3
     have HE:=Jz hxi6 (show An _ (.slice aw nw cw) a.ws.length 1 (strs a.ws) by rw[hnw];exact hx6) hxw hxl;clear hA hFb' hFc' hes hew hx hxs hx5 hx6 hxi hxi6 p0' p1' q2' l4 l5 g6;generalize x.ws.length=nx at *;generalize x.key=xk at *;cases hk:(xk.toList == a.key.toList)
     ·have HA:=hA1 hk;clear hA1 hA2 HE hTw;go_wp2;go_roundw;case rel=>exact⟨D'.length+1,c,by omega,by omega,by go_num,rfl,b46,HA⟩
      case measure=>simp[intOf];omega
     ·cases many
      ·have HA:=Aa (hTw hk rfl);clear hA1 hA2 HE hTw;go_wp2;go_ret;exact⟨Dp HA.out,b6⟩
      ·cases hd:decide (x.ws=a.ws)
       ·have HA:=hA2 hk rfl hd;rw[hd]at HE;clear hA1 hA2 hTw;go_wp2_with (go_at_call 127;refine HE.mono ?_;rintro e w7 ⟨rfl,q7,rfl⟩)
        go_roundw;case rel=>exact⟨D'.length+1,c+1,by omega,by omega,by go_num,by go_num,below_drewN b46 q7,HA⟩
        case measure=>simp[intOf];omega
       ·have HA:=Aa (hTw hk (by rw[hd];rfl));rw[hd]at HE;clear hA1 hA2 hTw;go_wp2_with (go_at_call 127;refine HE.mono ?_;rintro e w7 ⟨rfl,q7,rfl⟩)
        go_ret;exact⟨Dp HA.out,below_drewN b6 q7⟩
    ·obtain rfl:j=ne:=by omega
     have hA':=hFc' c (by rw[hNE.out];exact hA);clear hA hFb' hFc' hes hew hx hxs p0' p1' q2';by_cases h10:10≤c
     ·rw[if_pos h10]at hA';have HA:=Aa hA';clear hA';go_wp2;go_ret;exact⟨Dp HA.out,b5⟩
     ·rw[if_neg h10]at hA';have HA:=Aa hA';clear hA';go_wp2;go_ret;exact⟨Dp HA.out,b5⟩
variable {b:PBlock}{w0:World}
def I7(R:List Plain)(ls:List PLine)(k:Nat):Prop:=∀ i a,i<k→ls[i]?=some a→lineFault R (ls.take i) a=0
theorem I7.zero(R:List Plain)(ls:List PLine):I7 R ls 0:=fun _ _ h=>by omega
theorem I7.succ{ls:List PLine}{a:PLine}(h:I7 R ls k)(ha:ls[k]?=some a)(hz:lineFault R (ls.take k) a=0):I7 R ls (k+1):=by
 intro i b hi hb;by_cases e:i=k
 ·subst e;rw[ha]at hb;cases hb;exact hz
 ·exact h i b (by omega) hb
theorem Af7{ls:List PLine}{a:PLine}(ha:ls[k]?=some a)(hz:lineFault R (ls.take k) a≠0):false=linesB R ls:=by
 rw[eq_comm,← Bool.not_eq_true,Cg];exact fun h=>hz ((Jl h).1 k a ha)
open Classical in
theorem I7.all{ls:List PLine}(h:I7 R ls ls.length):Hq (lineLt R) ls=linesB R ls:=by
 rw[Bool.eq_iff_iff,Cg];unfold Hq;rw[decide_eq_true_iff];constructor
 ·intro hd;exact S4 (fun i a ha=>h i a (List.getElem?_eq_some_iff.1 ha).1 ha) hd
 ·exact fun hok=>(Jl hok).2
theorem Ah.take{cap:Nat}(h:Ah w (.slice ao n cap) ls)(k:Nat)(hk:k≤ls.length):Ah w (.slice ao k cap) (ls.take k):=by
 have hn:n=ls.length:=by obtain⟨_,_,_,e,_⟩:=h.1;cases e;rfl
 subst hn;refine⟨?_,fun x hx=>h.2 x (List.mem_of_mem_take hx)⟩;have:=h.1.take k hk;rw[Sf _ 2 LAt.len]at this;rw[List.length_take,Nat.min_eq_left hk];exact this
theorem Aw.take{cap:Nat}(h:Aw w (.slice ao n cap) bs)(k:Nat)(hk:k≤bs.length):Aw w (.slice ao k cap) (bs.take k):=by
 have hn:n=bs.length:=by obtain⟨_,_,_,e,_⟩:=h.1;cases e;rfl
 subst hn;refine⟨?_,fun x hx=>h.2 x (List.mem_of_mem_take hx)⟩;have:=h.1.take k hk;rw[Sf _ 3 BAt.len]at this;rw[List.length_take,Nat.min_eq_left hk];exact this
def Ae(ls:List LAt):Prop:=ls.length≤1048576∧∀ x∈ls,x.ws.length≤1048576∧∀ y∈x.ws,y.length≤1048576
def A2(bs:List BAt):Prop:=bs.length≤1048576∧∀ b∈bs,b.name.size≤1048576∧Ae b.ls
theorem J0(hv:∃ a n c,v=.slice a n c)(w:World):Calls Tryz.prog 75 #[v] w fun e w'=>e=.returned (.func (.func 147) #[] #[.pointer (some ⟨w.heap.size,0,none⟩)])∧w'=w.alloc (.cells #[v] 47):=by
 obtain⟨a,n,c,rfl⟩:=hv;go_enter Tryz.func75,Tryz.ntmps75;go_wp2;go_ret;exact⟨rfl,rfl⟩
theorem Ia(kind name:ByteArray)(hls:Ah w vl ls)(hsm:Ae ls)(hst:Dx w):Calls Tryz.prog 67 #[.agg #[.string kind,.string name,vl]] w fun e w'=>e=.returned (.bool (linesB (rulesOf kind) (ls.map LAt.plain)))∧Below w.heap.size w w':=by
 obtain⟨al,cl,rfl⟩:=hls.1.form;have hcap:=hls.1.cap;have hn20:=hsm.1;have b0:Below w.heap.size w (w.alloc (.cells #[.string kind,.string name,.slice al ls.length cl] 46)):=(Below.refl _ _).alloc (Nat.le_refl _) _;have hc0:=Bg (w:=w) (cs:=#[.string kind,.string name,.slice al ls.length cl]) (T:=46);have HR:=G6 kind (w.alloc (.cells #[.string kind,.string name,.slice al ls.length cl] 46));have hlike:=C5 kind;generalize hn:ls.length=n at *;generalize hPL:ls.map LAt.plain=PL;have hP:=Aa hPL;have hN:=Aa hn;clear hPL hn;have hPn:PL.length=n:=by rw[← hP.out,List.length_map,hN.out]
 have hPN:=Aa hPn;clear hPn;generalize rulesOf kind=R at *;go_enter Tryz.func67,Tryz.ntmps67;go_wp2_with (go_at_call 29;refine HR.mono ?_)
 rintro e w1 ⟨vr,L,rfl,hp,hr,b1⟩;clear HR;have b1':Below (w.heap.size+1) (w.alloc (.cells #[.string kind,.string name,.slice al n cl] 46)) w1:=by rw[← Hg];exact b1
 have b01:Below w.heap.size w w1:=b0.trans (b1.mono (by simp));have p0:=Ky b1' 0;have p2:=Ky b1' 2;simp only[List.getElem?_toArray,List.getElem?_cons_zero,List.getElem?_cons_succ]at p0 p2;clear hc0 b1 b1' b0;have hrf:=(Cm.rin hr).1.form;obtain⟨ar,cr,rfl⟩:=hrf;have hL:=Aa (rfl:L.length=L.length);generalize hm:L.length=m at *;have hM:=Aa hm;clear hm hL;go_wp2;go_loopw [12] (fun i wr=>∃ j:Nat,j≤n∧i=.int .i64 (j:Int)∧Below w1.heap.size w1 wr∧I7 R PL j) (fun i _=>n - (intOf i).toNat)
 case atStart=>exact⟨0,by omega,rfl,Below.refl _ _,I7.zero _ _⟩
 case round =>
  obtain⟨j,hj,rfl,hbw,hA⟩:=hrel;have b5:=b01.trans (hbw.mono b01.size);have l0:=World.block_lt_of_cell? w1 _ p2;have p2':=(hbw.cell (p:=⟨w.heap.size,2,none⟩) l0).trans p2;have l0':=World.block_lt_of_cell? wr _ p2';by_cases hlt:j<n
  ·obtain⟨D,x,T,e0,hD⟩:=Br ls j (by have:=hN.out;omega);have hls5:=hls.below b5;have hls6:=hls5;rw[e0]at hls6;obtain⟨g,off,rfl,c1,c2⟩:=hls6.1.line;have hxm:x∈ls:=by rw[e0];simp
   obtain⟨ax,cx,e1⟩:=(hls5.2 x hxm).form;rw[hD]at c1 c2;rw[e1]at c2;have hPx:PL[j]?=some x.plain:=by rw[← hP.out,e0,← hD];simp
   have hPt:(ls.take j).map LAt.plain=PL.take j:=by rw[← hP.out,List.map_take]
   have hA1:=fun h=>hA.succ hPx h
   have hA2:=fun h=>Af7 (R:=R) hPx h
   have H:∀(W:World),Below wr.heap.size wr W→Calls Tryz.prog 135 #[.slice ar m cr,.slice (some ⟨g,off,none⟩) j cl,.agg #[.string x.key,.slice ax x.ws.length cx]] W fun e w'=>e=.returned (.int .i64 (lineFault R (PL.take j) x.plain))∧Below W.heap.size W w':=by
    intro W hW;have b6:=b5.trans (hW.mono b5.size);have hxs:=hsm.2 x hxm;rw[← hPt,← hp];refine Rj x.plain (A8.below (A8.below hr hbw) hW) (by rw[hp];exact hlike) ((hls5.below hW).take j (by have:=hN.out;omega)) ?_ (fun y hy=>(hsm.2 y (List.mem_of_mem_take hy)).1) (e1 ▸ (hls5.below hW).2 x hxm) hxs.1 hxs.2 (hst.below b6);rw[List.length_take];have:=hsm.1;have:=hN.out;omega
   clear hls hls5 hls6 hst hsm hr hlike hA e0 e1 hPx hPt p0 hN hP hPN hp;generalize lineFault R (PL.take j) x.plain=F at *;generalize x.ws.length=nx at *;generalize x.key=xk at *;have g6:Below wr.heap.size wr (wr.alloc (.cells #[.string xk,.slice ax nx cx] 115)):=(Below.refl _ _).alloc (Nat.le_refl _) _;have k0:=(g6.cell (p:=⟨w.heap.size,2,none⟩) l0').trans p2';have k1:=Bg (w:=wr) (cs:=#[.string xk,.slice ax nx cx]) (T:=115) 0;have k2:=Bg (w:=wr) (cs:=#[.string xk,.slice ax nx cx]) (T:=115) 1;simp only[List.getElem?_toArray,List.getElem?_cons_zero,List.getElem?_cons_succ]at k1 k2;have i0:(0:Int)≤(j:Int):=by omega
   have i1:(j:Int)≤(cl:Int):=by have:=hcap.1;omega
   by_cases hz:F=0
   ·have HA:=hA1 hz;rw[hz]at H;clear hA1 hA2 hz;go_wp2
    go_region_held3 (fun W'=>W'.cell? ⟨w.heap.size,2,none⟩=some (.slice (some ⟨g,off,none⟩) n cl)∧W'.cell? ⟨wr.heap.size,0,none⟩=some (.string xk)∧W'.cell? ⟨wr.heap.size,1,none⟩=some (.slice ax nx cx))
     (first | exact⟨k0,k1,k2⟩ | exact⟨(b7.cell (by simp;omega)).trans k0,(b7.cell (by simp)).trans k1,(b7.cell (by simp)).trans k2⟩)
     (first | (go_at_call 135;refine(H _ g6.drew).mono ?_;rintro e w7 ⟨rfl,b7⟩))
    all_goals
     go_wp2;go_roundw;case rel=>exact⟨j+1,by omega,by go_num,hbw.trans ((g6.drew.trans (b7.mono (by simp))).mono hbw.size),HA⟩
     case measure=>simp[intOf];omega
   ·have HA:=Aa (hA2 hz);have hz':(F != 0)=true:=by rw[bne_iff_ne];exact hz
    clear hA1 hA2 hz;go_wp2
    go_region_held3 (fun W'=>W'.cell? ⟨w.heap.size,2,none⟩=some (.slice (some ⟨g,off,none⟩) n cl)∧W'.cell? ⟨wr.heap.size,0,none⟩=some (.string xk)∧W'.cell? ⟨wr.heap.size,1,none⟩=some (.slice ax nx cx))
     (first | exact⟨k0,k1,k2⟩ | exact⟨(b7.cell (by simp;omega)).trans k0,(b7.cell (by simp)).trans k1,(b7.cell (by simp)).trans k2⟩)
     (first | (go_at_call 135;refine(H _ g6.drew).mono ?_;rintro e w7 ⟨rfl,b7⟩))
    all_goals
     go_wp2;go_ret;exact⟨Av HA.out,b5.trans ((g6.drew.trans (b7.mono (by simp))).mono b5.size)⟩
  ·obtain rfl:j=n:=by omega
   have hE:=Aa (show Hq (lineLt R) PL=linesB R PL from I7.all (by rw[hPN.out];exact hA));have H:∀(W:World),Below wr.heap.size wr W→Calls Tryz.prog 136 #[.slice al j cl,.func (.func 147) #[] #[.pointer (some ⟨W.heap.size,0,none⟩)]] (W.alloc (.cells #[.slice ar m cr] 47)) fun e w'=>e=.returned (.bool (linesB R PL))∧Below wr.heap.size wr w':=by
    intro W hW;have g7:Below W.heap.size W (W.alloc (.cells #[.slice ar m cr] 47)):=(Below.refl _ _).alloc (Nat.le_refl _) _;have hW7:=hW.trans (g7.mono hW.size);have b6:=b5.trans (hW7.mono b5.size);have hsx:=Ok (RL:=L) W.heap.size (hls.below b6) (by have:=hsm.1;have:=hN.out;omega) (fun x hx=>(hsm.2 x hx).1) (Cm.rin (A8.below (A8.below hr hbw) hW7)) (by have:=hlike.1;rw[← hp,List.length_map]at this;exact this) (Bg (w:=W) 0);rw[hp,hP.out,hE.out]at hsx;exact hsx.mono fun e w' ⟨he,hG⟩=>⟨he,hW7.trans (hG.1.mono hW7.size)⟩
   have HO:=fun W=>J0 (v:=.slice ar m cr) ⟨_,_,_,rfl⟩ W
   have hdr:Below wr.heap.size wr wr.drew:=(Below.refl _ _).drew;clear hls hst hsm hr hlike hA hN hP hPN hp p0 hE;go_wp2
   go_region_held3 (fun W'=>W'.cell? ⟨w.heap.size,2,none⟩=some (.slice al j cl))
    (first | exact p2' | exact(b7.cell l0').trans p2' | go_keep)
    (first | (go_at_call 75;refine(HO _).mono ?_;rintro e w7 ⟨rfl,rfl⟩) | (go_at_call 136;refine(H _ hdr).mono ?_;rintro e w7 ⟨rfl,b7⟩))
   all_goals
    go_wp2;go_ret;exact⟨rfl,b5.trans (b7.mono b5.size)⟩
def G8(bs:List PBlock)(k:Nat):Prop:=∀ i b,i<k→bs[i]?=some b→headFault (bs.take i) b.kind b.name=0∧Bi (rulesOf b.kind) b.lines
theorem G8.zero(bs:List PBlock):G8 bs 0:=fun _ _ h=>by omega
theorem G8.succ{bs:List PBlock}(h:G8 bs k)(hb:bs[k]?=some b)(hz:headFault (bs.take k) b.kind b.name=0)(hl:linesB (rulesOf b.kind) b.lines=true):G8 bs (k+1):=by
 intro i c hi hc;by_cases e:i=k
 ·subst e;rw[hb]at hc;cases hc;exact⟨hz,Cg.1 hl⟩
 ·exact h i c (by omega) hc
theorem Y8{bs:List PBlock}(hb:bs[k]?=some b)(hz:headFault (bs.take k) b.kind b.name≠0):false=Ca bs:=by
 rw[eq_comm,← Bool.not_eq_true,Bh];exact fun h=>hz ((Jm h).1 k b hb).1
theorem Ws{bs:List PBlock}(hb:bs[k]?=some b)(hl:linesB (rulesOf b.kind) b.lines=false):false=Ca bs:=by
 rw[eq_comm,← Bool.not_eq_true,Bh];intro h;rw[Cg.2 ((Jm h).1 k b hb).2]at hl;cases hl
open Classical in
theorem G8.all{bs:List PBlock}(h:G8 bs bs.length):Hq blockLt bs=Ca bs:=by
 rw[Bool.eq_iff_iff,Bh];unfold Hq;rw[decide_eq_true_iff];constructor
 ·intro hd;exact S9 (fun i b hb=>h i b (List.getElem?_eq_some_iff.1 hb).1 hb) hd
 ·exact fun hok=>(Jm hok).2
theorem Wt(hS:Below B w0 W∧w0.heap.size≤W.heap.size∧W.cell? a1=some v1∧W.cell? a2=some v2∧W.cell? a3=some v3∧W.cell? a4=some v4)(hB:B≤w0.heap.size)(G:Below W.heap.size W W1):
  Below B w0 W1∧w0.heap.size≤W1.heap.size∧W1.cell? a1=some v1∧W1.cell? a2=some v2∧W1.cell? a3=some v3∧W1.cell? a4=some v4:=by
 obtain⟨h0,h00,h1,h2,h3,h4⟩:=hS;have kc:∀ {a:Addr} {u:Value},W.cell? a=some u→W1.cell? a=some u:=fun hc=>(G.cell (World.block_lt_of_cell? W _ hc)).trans hc
 exact⟨h0.trans (G.mono (by omega)),Nat.le_trans h00 G.size,kc h1,kc h2,kc h3,kc h4⟩
theorem Ha(hbs:Aw w v bs)(hsm:A2 bs)(hst:Dx w):Calls Tryz.prog 19 #[.agg #[v]] w fun e w'=>e=.returned (.bool (Ca (bs.map BAt.plain)))∧Below w.heap.size w w':=by
 obtain⟨al,cl,rfl⟩:=hbs.1.form;have hcap:=hbs.1.cap;have hn20:=hsm.1;have b0:Below w.heap.size w (w.alloc (.cells #[.slice al bs.length cl] 25)):=(Below.refl _ _).alloc (Nat.le_refl _) _;have p0:=Bg (w:=w) (cs:=#[.slice al bs.length cl]) (T:=25) 0;simp only[List.getElem?_toArray,List.getElem?_cons_zero]at p0;generalize hn:bs.length=n at *;generalize hPL:bs.map BAt.plain=PL;have hP:=Aa hPL;have hN:=Aa hn;have hPN:=Aa (show PL.length=n by rw[← hPL,List.length_map,hn]);clear hPL hn;go_enter Tryz.func19,Tryz.ntmps19;go_wp2;generalize hW0:w.alloc (.cells #[.slice al n cl] 25)=w1 at *;clear hW0;go_loopw [8] (fun i wr=>∃ j:Nat,j≤n∧i=.int .i64 (j:Int)∧Below w1.heap.size w1 wr∧G8 PL j) (fun i _=>n - (intOf i).toNat)
 case atStart=>exact⟨0,by omega,rfl,Below.refl _ _,G8.zero _⟩
 case round =>
  obtain⟨j,hj,rfl,hbw,hA⟩:=hrel;have b5:=b0.trans (hbw.mono b0.size);have l0:=World.block_lt_of_cell? w1 _ p0;have p0':=(hbw.cell (p:=⟨w.heap.size,0,none⟩) l0).trans p0;have l0':=World.block_lt_of_cell? wr _ p0';by_cases hlt:j<n
  ·obtain⟨D,x,T,e0,hD⟩:=Br bs j (by have:=hN.out;omega);have hbs5:=hbs.below b5;have hbs6:=hbs5;rw[e0]at hbs6;obtain⟨g,off,rfl,c1,c2,c3⟩:=hbs6.1.block;have hxm:x∈bs:=by rw[e0];simp
   have hxs:=hsm.2 x hxm;obtain⟨ax,cx,e1⟩:=(hbs5.2 x hxm).1.form;rw[hD]at c1 c2 c3;rw[e1]at c3;have hPx:PL[j]?=some x.plain:=by rw[← hP.out,e0,← hD];simp
   have hPt:(bs.take j).map BAt.plain=PL.take j:=by rw[← hP.out,List.map_take]
   have hA1:=fun h h'=>hA.succ hPx h h'
   have hA2:=fun h=>Y8 hPx h
   have hA3:=fun h=>Ws hPx h
   have H1:∀(W:World),Below wr.heap.size wr W→Calls Tryz.prog 66 #[.slice (some ⟨g,off,none⟩) j cl,.string x.kind,.string x.name] W fun e w'=>e=.returned (.int .i64 (headFault (PL.take j) x.plain.kind x.plain.name))∧Below W.heap.size W w':=by
    intro W hW;rw[← hPt];exact Ld x.kind x.name ((hbs5.below hW).take j (by have:=hN.out;omega)) (by rw[List.length_take];have:=hsm.1;omega) hxs.1
   have H2:∀(W:World),Below wr.heap.size wr W→Calls Tryz.prog 67 #[.agg #[.string x.kind,.string x.name,.slice ax x.ls.length cx]] W fun e w'=>e=.returned (.bool (linesB (rulesOf x.plain.kind) x.plain.lines))∧Below W.heap.size W w':=by
    intro W hW;have b6:=b5.trans (hW.mono b5.size);exact Ia x.kind x.name (e1 ▸ (hbs5.below hW).2 x hxm) hxs.2 (hst.below b6)
   clear hbs hbs5 hbs6 hst hsm hA e0 e1 hPx hPt hN hP hPN hxs;generalize headFault (PL.take j) x.plain.kind x.plain.name=F at *;generalize linesB (rulesOf x.plain.kind) x.plain.lines=LB at *;generalize x.ls.length=nx at *;generalize x.kind=xk at *;generalize x.name=xn at *;have g6:Below wr.heap.size wr (wr.alloc (.cells #[.string xk,.string xn,.slice ax nx cx] 46)):=(Below.refl _ _).alloc (Nat.le_refl _) _;have k0:=(g6.cell (p:=⟨w.heap.size,0,none⟩) l0').trans p0';have k1:=Bg (w:=wr) (cs:=#[.string xk,.string xn,.slice ax nx cx]) (T:=46) 0;have k2:=Bg (w:=wr) (cs:=#[.string xk,.string xn,.slice ax nx cx]) (T:=46) 1;have k3:=Bg (w:=wr) (cs:=#[.string xk,.string xn,.slice ax nx cx]) (T:=46) 2;simp only[List.getElem?_toArray,List.getElem?_cons_zero,List.getElem?_cons_succ]at k1 k2 k3;have i0:(0:Int)≤(j:Int):=by omega
   have i1:(j:Int)≤(cl:Int):=by have:=hcap.1;omega
   have hsz:=Hg wr (.cells #[.string xk,.string xn,.slice ax nx cx] 46);have m0:w.heap.size<(wr.alloc (.cells #[.string xk,.string xn,.slice ax nx cx] 46)).drew.heap.size:=by rw[World.size_drew,hsz];exact Nat.lt_succ_of_lt l0'
   have m1:wr.heap.size<(wr.alloc (.cells #[.string xk,.string xn,.slice ax nx cx] 46)).drew.heap.size:=by rw[World.size_drew,hsz];exact Nat.lt_succ_self _
   have gd:=g6.drew;have hS:Below wr.heap.size wr (wr.alloc (.cells #[.string xk,.string xn,.slice ax nx cx] 46)).drew∧wr.heap.size≤(wr.alloc (.cells #[.string xk,.string xn,.slice ax nx cx] 46)).drew.heap.size∧(wr.alloc (.cells #[.string xk,.string xn,.slice ax nx cx] 46)).drew.cell? ⟨w.heap.size,0,none⟩=some (.slice (some ⟨g,off,none⟩) n cl)∧(wr.alloc (.cells #[.string xk,.string xn,.slice ax nx cx] 46)).drew.cell? ⟨wr.heap.size,0,none⟩=some (.string xk)∧(wr.alloc (.cells #[.string xk,.string xn,.slice ax nx cx] 46)).drew.cell? ⟨wr.heap.size,1,none⟩=some (.string xn)∧(wr.alloc (.cells #[.string xk,.string xn,.slice ax nx cx] 46)).drew.cell? ⟨wr.heap.size,2,none⟩=some (.slice ax nx cx):=⟨gd,gd.size,k0,k1,k2,k3⟩;clear m0 m1 hsz g6 p0 l0 hcap hD hxm hj;by_cases hz:F=0
   ·rw[hz]at H1;clear k0 k1 k2 k3 p0';cases LB
    ·have HA:=Aa (hA3 rfl);clear hA1 hA2 hA3;go_wp2
     go_region_held3 (fun W'=>Below wr.heap.size wr W'∧wr.heap.size≤W'.heap.size∧W'.cell? ⟨w.heap.size,0,none⟩=some (.slice (some ⟨g,off,none⟩) n cl)∧W'.cell? ⟨wr.heap.size,0,none⟩=some (.string xk)∧W'.cell? ⟨wr.heap.size,1,none⟩=some (.string xn)∧W'.cell? ⟨wr.heap.size,2,none⟩=some (.slice ax nx cx))
      (first | assumption | exact hS | exact Wt (by assumption) (Nat.le_refl _) (by assumption))
      (first | (go_at_call 66;refine(H1 _ (And.left (by assumption))).mono ?_;rintro e w7 ⟨rfl,b7⟩) | (go_at_call 67;refine(H2 _ (And.left (by assumption))).mono ?_;rintro e w8 ⟨rfl,b8⟩))
     all_goals
      rename_i hQ;have G1:=hQ.1;clear hQ hS b7 b8 H1 H2;go_wp2;go_ret;exact⟨Av HA.out,b5.trans (G1.mono b5.size)⟩
    ·have HA:=hA1 hz rfl;clear hA1 hA2 hA3;go_wp2
     go_region_held3 (fun W'=>Below wr.heap.size wr W'∧wr.heap.size≤W'.heap.size∧W'.cell? ⟨w.heap.size,0,none⟩=some (.slice (some ⟨g,off,none⟩) n cl)∧W'.cell? ⟨wr.heap.size,0,none⟩=some (.string xk)∧W'.cell? ⟨wr.heap.size,1,none⟩=some (.string xn)∧W'.cell? ⟨wr.heap.size,2,none⟩=some (.slice ax nx cx))
      (first | assumption | exact hS | exact Wt (by assumption) (Nat.le_refl _) (by assumption))
      (first | (go_at_call 66;refine(H1 _ (And.left (by assumption))).mono ?_;rintro e w7 ⟨rfl,b7⟩) | (go_at_call 67;refine(H2 _ (And.left (by assumption))).mono ?_;rintro e w8 ⟨rfl,b8⟩))
     all_goals
      rename_i hQ;have G1:=hQ.1;clear hQ hS b7 b8 H1 H2;go_wp2;go_roundw;case rel=>exact⟨j+1,by omega,by go_num,hbw.trans (G1.mono hbw.size),HA⟩
      case measure=>simp[intOf];omega
   ·have HA:=Aa (hA2 hz);have hz':(F != 0)=true:=by rw[bne_iff_ne];exact hz
    clear hA1 hA2 hA3 hz H2 hS p0';go_wp2
    go_region_with (first
     | (go_at_call 66;refine(H1 _ gd).mono ?_;rintro e w7 ⟨rfl,b7⟩))
    all_goals
     go_wp2;go_ret;exact⟨Av HA.out,b5.trans ((gd.trans (b7.mono gd.size)).mono b5.size)⟩
  ·obtain rfl:j=n:=by omega
   have hE:=Aa (show Hq blockLt PL=Ca PL from G8.all (by rw[hPN.out];exact hA));have H:=Nj (hbs.below b5) (by have:=hsm.1;omega);rw[hP.out,hE.out]at H;clear hbs hsm hst hA hN hP hPN hE;go_wp2_with (go_at_call 68;refine H.mono ?_;rintro e w7 ⟨rfl,G7⟩)
   go_ret;exact⟨rfl,b5.trans (G7.1.mono b5.size)⟩
variable {β:Type}
theorem Sg{f:α→β}{xs ys:List α}(h:xs.map f=ys.map f){x:α}(hx:x∈xs):∃ y∈ys,f y=f x:=by
 have:f x∈ys.map f:=by rw[← h];exact List.mem_map_of_mem hx
 obtain⟨y,hy,e⟩:=List.mem_map.1 this;exact⟨y,hy,e⟩
theorem Sh{f:α→β}{xs ys:List α}(h:xs.map f=ys.map f):xs.length=ys.length:=by
 have:=congrArg List.length h;simpa using this
theorem Ae.same{xs ys:List LAt}(h:Ae ys)(he:xs.map LAt.plain=ys.map LAt.plain):Ae xs:=by
 refine⟨by rw[Sh he];exact h.1,fun x hx=>?_⟩;obtain⟨y,hy,e⟩:=Sg he hx;have:=h.2 y hy;simp only[LAt.plain,PLine.mk.injEq]at e;rw[← e.2];exact this
theorem A2.same{xs ys:List BAt}(h:A2 ys)(he:xs.map BAt.plain=ys.map BAt.plain):A2 xs:=by
 refine⟨by rw[Sh he];exact h.1,fun x hx=>?_⟩;obtain⟨y,hy,e⟩:=Sg he hx;have:=h.2 y hy;simp only[BAt.plain,PBlock.mk.injEq]at e;exact⟨by rw[← e.2.1];exact this.1,this.2.same e.2.2.symm⟩
def Nk(R:List Plain):Prop:=(R.map fun p=>p.1.toList).Nodup
theorem Aby(kind:ByteArray):Nk (rulesOf kind):=by
 unfold rulesOf Nk;split
 ·unfold Gm;simp only[ByteArray.toList_eq];decide
 ·split
  ·unfold Fo;simp only[ByteArray.toList_eq];decide
  ·split
   ·unfold Eh;simp only[ByteArray.toList_eq];decide
   ·simp
theorem Adv(h:Nk R){D T:List Plain}{p:Plain}{key:ByteArray}(hR:R=D++p::T)(hp:Cp R key=some p):placeI R key=(D.length:Int):=by
 obtain⟨i,hi,hg,hk⟩:=Ew hp;rw[hi];have h1:R[D.length]?=some p:=by rw[hR];simp
 have hi':=(List.getElem?_eq_some_iff.1 hg).1;have hD':=(List.getElem?_eq_some_iff.1 h1).1;by_cases e:i=D.length
 ·rw[e]
 ·exfalso;have hn:=List.pairwise_iff_getElem.1 h;have e1:=(List.getElem?_eq_some_iff.1 hg).2;have e2:=(List.getElem?_eq_some_iff.1 h1).2;rcases Nat.lt_or_gt_of_ne e with hlt | hlt
  ·have:=hn i D.length (by simpa using hi') (by simpa using hD') hlt;simp only[List.getElem_map,e1,e2]at this;exact this rfl
  ·have:=hn D.length i (by simpa using hD') (by simpa using hi') hlt;simp only[List.getElem_map,e1,e2]at this;exact this rfl
theorem Y9{key:ByteArray}(h:Cp R key=none):placeI R key=-1:=by
 unfold placeI;rw[List.findIdx?_eq_none_iff.2];unfold Cp at h;intro p hp;have:=List.find?_eq_none.1 h p hp;simpa using this
def Got(v:Value)(w:World)(e:Ending)(w':World):Prop:=e=.returned v∧Below w.heap.size w w'
theorem Km(kind key:ByteArray)(w:World):Calls Tryz.prog 90 #[.string kind,.string key] w fun e w'=>e=.returned (.int .i64 (placeI (rulesOf kind) key))∧Below w.heap.size w w':=by
 refine(Pv kind key w).mono fun e w' ⟨hb,hp⟩=>⟨?_,hb⟩
 rcases hp with ⟨h,rfl⟩ | ⟨D,p,T,hR,h,rfl⟩
 ·rw[Y9 h]
 ·rw[Adv (Aby kind) hR h]
theorem Ahl{xs:List (List UInt8)}(h:De xs ys k)(h1:k<xs.length)(h2:k<ys.length)(e:(xs[k] == ys[k])=false):decide (xs[k]<ys[k])=decide (xs<ys):=by
 rw[decide_eq_decide];unfold De at h;have hx:xs=xs.take k++xs[k]::xs.drop (k+1):=by rw[← List.drop_eq_getElem_cons h1,List.take_append_drop]
 have hy:ys=ys.take k++ys[k]::ys.drop (k+1):=by rw[← List.drop_eq_getElem_cons h2,List.take_append_drop]
 have hne:xs[k]≠ys[k]:=by simpa using e
 have hpre:∀(p a b:List (List UInt8)),p++a<p++b↔a<b:=by
  intro p a b
  induction p with
  | nil=>rfl
  | cons c p ih =>
   rw[List.cons_append,List.cons_append,It];constructor
   ·rintro(q | ⟨_,q⟩)
    ·exact absurd q (Jj.irr _)
    ·exact ih.1 q
   ·exact fun q=>.inr ⟨rfl,ih.2 q⟩
 generalize hX:xs[k]=X at *;generalize hY:ys[k]=Y at *;rw[hx,hy,h,hpre,It];constructor
 ·exact fun q=>.inl q
 ·rintro(q | ⟨q,_⟩)
  ·exact q
  ·exact absurd q hne
theorem Wu{xs:List (List UInt8)}(h:De xs ys k)(hk:k=xs.length∨k=ys.length)(hx:k≤xs.length)(hy:k≤ys.length):decide (xs.length<ys.length)=decide (xs<ys):=by
 rw[decide_eq_decide];unfold De at h;have e1:xs=xs.take k++xs.drop k:=(List.take_append_drop _ _).symm;have e2:ys=ys.take k++ys.drop k:=(List.take_append_drop _ _).symm;have hpre:∀(p a b:List (List UInt8)),p++a<p++b↔a<b:=by
  intro p a b
  induction p with
  | nil=>rfl
  | cons c p ih =>
   rw[List.cons_append,List.cons_append,It];constructor
   ·rintro(q | ⟨_,q⟩)
    ·exact absurd q (Jj.irr _)
    ·exact ih.1 q
   ·exact fun q=>.inr ⟨rfl,ih.2 q⟩
 have e3:xs<ys↔xs.drop k<ys.drop k:=by
  conv=>lhs;rw[e1,e2,h]
  exact hpre _ _ _
 rw[e3];have lx:(xs.drop k).length=xs.length - k:=List.length_drop;have ly:(ys.drop k).length=ys.length - k:=List.length_drop;cases hdx:xs.drop k with
 | nil =>
  rw[hdx]at lx;simp at lx;cases hdy:ys.drop k with
  | nil =>
   rw[hdy]at ly;simp at ly;constructor
   ·intro q;omega
   ·intro q;exact absurd q (List.not_lt_nil _)
  | cons y l =>
   rw[hdy]at ly;simp at ly;exact⟨fun _=>List.nil_lt_cons _ _,fun _=>by omega⟩
 | cons x l =>
  rw[hdx]at lx;simp at lx;have hky:ys.drop k=[]:=List.drop_eq_nil_of_le (by omega);rw[hky];constructor
  ·intro q;omega
  ·intro q;exact absurd q (List.not_lt_nil _)
theorem Lu{xs:List (List UInt8)}(h1:An w (.slice ao n ca) xs.length 1 (strs xs))(h2:An w (.slice bo m cb) ys.length 1 (strs ys))(hn:n≤1048576)(hm:m≤1048576):Calls Tryz.prog 156 #[.slice ao n ca,.slice bo m cb] w fun e w'=>e=.returned (.bool (decide (xs<ys)))∧∃ q,w'=w.drewN q:=by
 have en:=Aa (show n=xs.length by obtain⟨_,_,_,e,_⟩:=h1;cases e;rfl);have em:=Aa (show m=ys.length by obtain⟨_,_,_,e,_⟩:=h2;cases e;rfl);go_enter Tryz.func156,Tryz.ntmps156;go_wp2;go_loopw [5] (fun i wr=>∃ k q:Nat,k≤n∧k≤m∧i=.int .i64 (k:Int)∧wr=w.drewN q∧De xs ys k) (fun i _=>n - (intOf i).toNat)
 case atStart=>exact⟨0,0,by omega,by omega,rfl,rfl,De.zero _ _⟩
 case round =>
  obtain⟨k,q,hk,hkm,rfl,rfl,hA⟩:=hrel;by_cases hlt:k<n
  ·have lk:k<xs.length:=by have:=en.out;omega
   by_cases hlt2:k<m
   ·have lk2:k<ys.length:=by have:=em.out;omega
    obtain⟨b,off,rfl,c1⟩:=h1.word k lk;obtain⟨b2,off2,rfl,c2⟩:=h2.word k lk2;have e1:(ByteArray.mk xs[k].toArray).toList=xs[k]:=by rw[ByteArray.toList_eq]
    have e2:(ByteArray.mk ys[k].toArray).toList=ys[k]:=by rw[ByteArray.toList_eq]
    cases he:(xs[k] == ys[k])
    ·have HA:=Aa (show Op.bytesLess xs[k] ys[k]=decide (xs<ys) by rw[L6];exact Ahl hA lk lk2 he);rw[← e1,← e2]at he HA;generalize (⟨xs[k].toArray⟩:ByteArray)=x at *;generalize (⟨ys[k].toArray⟩:ByteArray)=y at *;clear hA h1 h2 e1 e2;go_wp2;go_quiet (fail)
     go_wp2;go_quiet (fail)
     go_wp2;go_ret;exact⟨Av HA.out,_,by first | rfl | exact World.drewN_drewN _ _ _ | (rw[World.drewN_drewN,World.drewN_drewN])⟩
    ·have HA:=hA.succ lk lk2 he;rw[← e1,← e2]at he;generalize (⟨xs[k].toArray⟩:ByteArray)=x at *;generalize (⟨ys[k].toArray⟩:ByteArray)=y at *;clear hA h1 h2 e1 e2;go_wp2;go_quiet (fail)
     go_wp2;go_roundw;case rel=>exact⟨k+1,_,by omega,by omega,by go_num,by first | rfl | exact World.drewN_drewN _ _ _,HA⟩
     case measure=>simp[intOf];omega
   ·have HA:=Aa (show decide (n<m)=decide (xs<ys) by rw[en.out,em.out];exact Wu hA (.inr (by have:=em.out;omega)) (by omega) (by have:=em.out;omega));clear hA h1 h2;go_wp2;go_ret;exact⟨Av HA.out,q,rfl⟩
  ·have HA:=Aa (show decide (n<m)=decide (xs<ys) by rw[en.out,em.out];exact Wu hA (.inl (by have:=en.out;omega)) (by have:=en.out;omega) (by have:=em.out;omega));clear hA h1 h2;go_wp2;go_ret;exact⟨Av HA.out,q,rfl⟩
theorem Kn(kind:ByteArray)(a b:PLine)(ha:An w va a.ws.length 1 (strs a.ws))(hb:An w vb b.ws.length 1 (strs b.ws))(la:a.ws.length≤1048576)(lb:b.ws.length≤1048576):Calls Tryz.prog 121 #[.string kind,.agg #[.string a.key,va],.agg #[.string b.key,vb]] w fun e w'=>e=.returned (.bool (lineLt (rulesOf kind) a b))∧Below w.heap.size w w':=by
 obtain⟨aa,ca,rfl⟩:=ha.form;obtain⟨ab,cb,rfl⟩:=hb.form;have G:=((Below.refl w.heap.size w).alloc (Nat.le_refl _) (.cells #[.string a.key,.slice aa a.ws.length ca] 115)).alloc (by simp) (.cells #[.string b.key,.slice ab b.ws.length cb] 115);have hc:=Di (w:=w) (cs:=#[.string a.key,.slice aa a.ws.length ca]) (ds:=#[.string b.key,.slice ab b.ws.length cb]) (T:=115) (U:=115);have c0:=hc.1 0;have c1:=hc.1 1;have d0:=hc.2 0;have d1:=hc.2 1;simp only[List.getElem?_toArray,List.getElem?_cons_zero,List.getElem?_cons_succ]at c0 c1 d0 d1;clear hc;have ha1:=ha.below G;have hb1:=hb.below G;have HP:∀ key W,Calls Tryz.prog 90 #[.string kind,.string key] W fun e w'=>Got (.int .i64 (placeI (rulesOf kind) key)) W e w':=fun key W=>Km kind key W
 have hL:=Aa (show lineLt (rulesOf kind) a b=(decide (placeI (rulesOf kind) a.key<placeI (rulesOf kind) b.key) || (decide (placeI (rulesOf kind) a.key=placeI (rulesOf kind) b.key) && decide (a.ws<b.ws))) from rfl);generalize lineLt (rulesOf kind) a b=LT at *;generalize placeI (rulesOf kind)=pl at *;generalize hna:a.ws.length=na at *;generalize hnb:b.ws.length=nb at *;have hNA:=Aa hna;have hNB:=Aa hnb;clear ha hb hna hnb;go_enter Tryz.func121,Tryz.ntmps121;go_wp2_with fail
 generalize (w.alloc (.cells #[.string a.key,.slice aa na ca] 115)).alloc (.cells #[.string b.key,.slice ab nb cb] 115)=W at *;have l1:=World.block_lt_of_cell? W _ c1;have l2:=World.block_lt_of_cell? W _ d1;go_wp2_with (go_at_call 90;refine(HP a.key _).mono ?_)
 rintro e w1 ⟨rfl,b1⟩;have d0':=(b1.cell (p:=⟨w.heap.size+1,0,none⟩) l2).trans d0;go_wp2_with (go_at_call 90;refine(HP b.key _).mono ?_)
 rintro e w2 ⟨rfl,b2⟩;have b12:=b1.trans (b2.mono b1.size);have c1':=(b12.cell (p:=⟨w.heap.size,1,none⟩) l1).trans c1;have d1':=(b12.cell (p:=⟨w.heap.size+1,1,none⟩) l2).trans d1;have G2:=G.trans (b12.mono G.size);have HL:=Lu (w:=w2) (show An _ (.slice aa na ca) a.ws.length 1 (strs a.ws) by rw[hNA.out];exact ha1.below b12) (show An _ (.slice ab nb cb) b.ws.length 1 (strs b.ws) by rw[hNB.out];exact hb1.below b12) la lb;clear HP ha1 hb1 b1 b2 b12 c0 c1 d0 d1 d0';generalize pl a.key=pa at *;generalize pl b.key=pb at *;by_cases h1:pa<pb
 ·have HA:=Aa (show true=LT by rw[hL.out];simp[h1]);clear hL HL;go_wp2;go_ret;exact⟨Av HA.out,G2⟩
 ·by_cases h2:pa=pb
  ·have HA:=Aa (show decide (a.ws<b.ws)=LT by rw[hL.out];simp[h2]);subst h2;clear hL;generalize decide (a.ws<b.ws)=dl at *;go_wp2_with (go_at_call 156;refine HL.mono ?_;rintro e w3 ⟨rfl,q,rfl⟩)
   go_ret;exact⟨Av HA.out,below_drewN G2 q⟩
  ·have HA:=Aa (show decide (pa<pb)=LT by rw[hL.out];simp[h1,h2]);have h3:(pa == pb)=false:=by rw[beq_eq_false_iff_ne];exact h2
   clear hL HL;go_wp2;go_ret;exact⟨Av HA.out,G2⟩
theorem N5(a b:PBlock)(la lb ca cb:Nat)(aa ab:Option Addr)(w:World):Calls Tryz.prog 59 #[.agg #[.string a.kind,.string a.name,.slice aa la ca],.agg #[.string b.kind,.string b.name,.slice ab lb cb]] w fun e w'=>e=.returned (.bool (blockLt a b))∧Below w.heap.size w w':=by
 have G:=((Below.refl w.heap.size w).alloc (Nat.le_refl _) (.cells #[.string a.kind,.string a.name,.slice aa la ca] 46)).alloc (by simp) (.cells #[.string b.kind,.string b.name,.slice ab lb cb] 46);have hc:=Di (w:=w) (cs:=#[.string a.kind,.string a.name,.slice aa la ca]) (ds:=#[.string b.kind,.string b.name,.slice ab lb cb]) (T:=46) (U:=46);have c0:=hc.1 0;have c1:=hc.1 1;have d0:=hc.2 0;have d1:=hc.2 1;simp only[List.getElem?_toArray,List.getElem?_cons_zero,List.getElem?_cons_succ]at c0 c1 d0 d1;clear hc;have hL:=Aa (show blockLt a b=(decide (a.kind.toList<b.kind.toList) || (decide (a.kind.toList=b.kind.toList) && decide (a.name.toList<b.name.toList))) from rfl);generalize blockLt a b=LT at *;generalize a.kind=ak at *;generalize a.name=an at *;generalize b.kind=bk at *;generalize b.name=bn at *;have e1:=L6 ak.toList bk.toList;by_cases h1:ak.toList<bk.toList
 ·have HA:=Aa (show true=LT by rw[hL.out];simp[h1]);rw[decide_eq_true h1]at e1;clear hL h1;go_enter Tryz.func59,Tryz.ntmps59;go_wp2;go_ret;exact⟨Av HA.out,G⟩
 ·rw[decide_eq_false h1]at e1;by_cases h2:ak.toList=bk.toList
  ·have e2:(ak.toList == bk.toList)=true:=by rw[beq_iff_eq];exact h2
   have HA:=Aa (show Op.bytesLess an.toList bn.toList=LT by rw[L6,hL.out,decide_eq_false h1,decide_eq_true h2];simp);clear hL h1 h2;go_enter Tryz.func59,Tryz.ntmps59;go_wp2;go_ret;exact⟨Av HA.out,G⟩
  ·have e2:(ak.toList == bk.toList)=false:=by rw[beq_eq_false_iff_ne];exact h2
   have HA:=Aa (show false=LT by rw[hL.out];simp[h1,h2]);clear hL h1 h2;go_enter Tryz.func59,Tryz.ntmps59;go_wp2;go_ret;exact⟨Av HA.out,G⟩
end Go.Proofs.YtpdahhnjhggocaaGreatDoor
