import Derived.Test.YtpdahhnjhggocaaGreatDoorMz15
import Derived.Test.YtpdahhnjhggocaaGreatDoorMz17
namespace Go.Proofs.YtpdahhnjhggocaaGreatDoor
open Go.RowKit
set_option maxHeartbeats 16000000
set_option maxRecDepth 100000
variable {w w' W W3:World}{i base n B p k q xc:Nat}{v vn:Value}{xs:List Value}{rk:ByteArray}{ns:List Int}{xo:Option Addr}{ws:List (List UInt8)}{R:List Plain}
structure Bl(S:List Nat)(w w':World):Prop where
 os:w'.os=w.os
 tape:w'.tape=w.tape
 output:w'.output=w.output
 size:w.heap.size≤w'.heap.size
 block:∀ i,i<w.heap.size→i ∉ S→w'.heap[i]?=w.heap[i]?
theorem Bl.trans{S:List Nat}{a b c:World}(h:Bl S a b)(k:Bl S b c):Bl S a c :=
 ⟨k.os.trans h.os,k.tape.trans h.tape,k.output.trans h.output,Nat.le_trans h.size k.size,fun i hi hS=>(k.block i (Nat.lt_of_lt_of_le hi h.size) hS).trans (h.block i hi hS)⟩
theorem Bl.of_grown{S:List Nat}{row:Option Nat}(h:w.grownBy w' row)(hr:∀ g,row=some g→g∈S):Bl S w w' :=
 ⟨h.os,h.tape,h.output,h.size,fun i hi hS=>h.block i hi (fun e=>hS (hr i e.symm))⟩
theorem Bl.of_below{S:List Nat}(h:Below w.heap.size w w'):Bl S w w':=⟨h.os,h.tape,h.output,h.size,fun i hi _=>h.block i hi⟩
theorem Bl.less{S T:List Nat}{a:World}(h:Bl T a w)(k:Bl S w w')(hs:∀ i∈S,i∈T∨a.heap.size≤i):Bl T a w' :=
 ⟨k.os.trans h.os,k.tape.trans h.tape,k.output.trans h.output,Nat.le_trans h.size k.size,fun i hi hT=>(k.block i (Nat.lt_of_lt_of_le hi h.size) (fun e=>by rcases hs i e with h1 | h1;exact hT h1;omega)).trans (h.block i hi hT)⟩
theorem Bl.heap{S:List Nat}(h:Bl S w w'){o:Obj}(ho:w.heap[i]?=some o)(hS:i ∉ S):w'.heap[i]?=some o:=by
 rw[h.block i (Array.getElem?_eq_some_iff.1 ho).1 hS];exact ho
theorem Bl.own{S:List Nat}{e:TypeId}{size:Nat}(h:w.ownsRow base e size v n xs)(k:Bl S w w')(hS:∀ g,v.ownBlock=some g→g ∉ S):w'.ownsRow base e size v n xs:=by
 obtain⟨h1,h2⟩:=h;refine⟨h1,?_⟩;rcases h2 with h2 | ⟨g,cap,cur,hv,hg,hh,hr⟩
 ·exact .inl h2
 ·exact .inr ⟨g,cap,cur,hv,hg,k.heap hh (hS g (by rw[hv];rfl)),hr⟩
theorem Bl.rd{S:List Nat}(h:Rd B w p k)(hk:Bl S w w')(hS:∀ i∈S,p<i):Rd B w' p k:=by
 obtain⟨hB,a,len,cap,hb,hl,hrest⟩:=h;refine⟨hB,a,len,cap,hk.heap hb (fun e=>Nat.lt_irrefl _ (hS _ e)),hl,?_⟩;rcases hrest with h0 | ⟨b,off,ha,hbB,hc⟩
 ·exact Or.inl h0
 ·refine Or.inr ⟨b,off,ha,hbB,fun i hi=>?_⟩;obtain⟨z,hz,hcell⟩:=hc i hi;refine⟨z,hz,?_⟩;have hlt:=World.block_lt_of_cell? w _ hcell;rw[World.cell?_of_block (hk.block b hlt (fun e=>by have:=hS _ e;omega))];exact hcell
theorem Bl.grown(h:Bl [p] w w'):w.grownBy w' (some p):=⟨h.os,h.tape,h.output,h.size,fun i hi hne=>h.block i hi (fun e=>hne (by rw[List.mem_singleton.1 e]))⟩
theorem Bl.set(w:World)(q j:Nat)(u:Value):Bl [q] w (w.setCell ⟨q,j,none⟩ u) :=
 ⟨rfl,rfl,rfl,by simp,fun i _ hi=>heap_setCell_other w ⟨q,j,none⟩ i _ (fun e=>hi (by simp[e]))⟩
theorem Cm.kept{S:List Nat}{L:List Ce}(h:Cm B w v L)(k:Bl S w w')(hS:∀ i∈S,i<B):Cm B w' v L :=
 ⟨fun s hs=>Bl.own (h.1 s hs) k (fun q hq e=>by have h1:=(World.ownsRow.lt (h.1 s hs) q hq).1;have h2:=hS q e;omega),h.2⟩
def Agm(R:List Plain):Prop:=∀ p∈R,p.2.2.1=false→1≤p.2.2.2.length∧p.2.2.2.length≤3∧∀ d∈p.2.2.2,d.length≤200
theorem Xm(kind:ByteArray):Agm (rulesOf kind):=by
 unfold rulesOf;split
 ·unfold Agm;decide
 ·split
  ·unfold Agm;decide
  ·split
   ·unfold Agm;decide
   ·intro p hp;simp at hp
def Xn(R:List Plain)(B p k:Nat)(w:World)(e:Ending)(w':World):Prop :=
 ∃(key:ByteArray) (bo:Option Addr) (cb k':Nat) (ws:List (List UInt8)),(∃ q∈R,q.1=key)∧e=.returned (.agg #[.string key,.slice bo ws.length cb])∧w'.ownsRow w.heap.size 9 1 (.slice bo ws.length cb) ws.length (strs ws)∧ws.length≤3∧(∀ x∈ws,x.length≤200)∧k'≤k+10∧Rd B w' p k'∧w.grownBy w' (some p)
structure Gj(B p k:Nat)(w:World)(q:Nat)(rk:ByteArray)(vn:Value)(ns:List Int)(xo:Option Addr)(xc:Nat)(ws:List (List UInt8))(W:World):Prop where
 rd:Rd B W p k
 b4:W.heap[w.heap.size]?=some (.cells #[.string ⟨#[]⟩,.slice none 0 0] 115 (0,0))
 b6:∃ c0 c2 c3,W.heap[q]?=some (.cells #[c0,vn,c2,c3] 54 (0,0))
 b7:W.heap[q+1]?=some (.cells #[.string rk,.slice xo ws.length xc] 115 (0,0))
 own:W.ownsRow (q+2) 9 1 (.slice xo ws.length xc) ws.length (strs ws)
 args:W.ownsRow (w.heap.size+1) 3 1 vn ns.length (Dq ns)
 argsLt:∀ g,vn.ownBlock=some g→w.heap.size<g∧g<q
 kept:Bl [p] w W
 big:q+2≤W.heap.size
 plt:p<w.heap.size
 qge:w.heap.size<q
theorem Gj.next{k3 g3 cap3:Nat}{W4:World}{u:ByteArray}(h:Gj B p k w q rk vn ns xo xc ws W)
  (g1:W.grownBy W3 (some p)) (r3:Rd B W3 p k3) (g2:(W3.alloc (.cells #[.string u] 9)).grownBy W4 (Value.slice xo ws.length xc).ownBlock) (o4:W4.ownsRow (q+2) 9 1 (.slice (some ⟨g3,0,none⟩) (ws.length+1) cap3) (ws.length+1) (strs ws++[.string u])) :
  Gj B p k3 w q rk vn ns (some ⟨g3,0,none⟩) cap3 (ws++[u.data.toList]) (W4.setCell ⟨q+1,1,none⟩ (.slice (some ⟨g3,0,none⟩) (ws.length+1) cap3)):=by
 have hlt:=h.own.lt;have K34:Bl (Value.slice xo ws.length xc).ownBlock.toList W3 W4:=(Bl.of_below ((Below.refl _ _).alloc (Nat.le_refl _) _)).trans (Bl.of_grown g2 (fun g hg=>by rw[hg];simp));have K45:Bl [q+1] W4 (W4.setCell ⟨q+1,1,none⟩ (.slice (some ⟨g3,0,none⟩) (ws.length+1) cap3)):=Bl.set _ _ _ _;have hS:∀ i∈(Value.slice xo ws.length xc).ownBlock.toList,q+2≤i:=fun i hi=>(hlt i (by simpa using hi)).1
 have hp:=h.plt;have hq:=h.qge;have K13:Bl [p] W W3:=Bl.of_grown g1 (fun g hg=>by cases hg;simp);have K:∀ {i:Nat} {o:Obj},W.heap[i]?=some o→p<i→i<q+1→(W4.setCell ⟨q+1,1,none⟩ (.slice (some ⟨g3,0,none⟩) (ws.length+1) cap3)).heap[i]?=some o:=fun ho h1 h2 =>
  K45.heap (K34.heap (K13.heap ho (fun e=>by have:=List.mem_singleton.1 e;omega)) (fun e=>by have:=hS _ e;omega)) (fun e=>by have:=List.mem_singleton.1 e;omega)
 have h7:W4.heap[q+1]?=some (.cells #[.string rk,.slice xo ws.length xc] 115 (0,0)):=K34.heap (K13.heap h.b7 (fun e=>by have:=List.mem_singleton.1 e;omega)) (fun e=>by have:=hS _ e;omega);refine⟨?_,K h.b4 hp (by omega),(by obtain⟨c0,c2,c3,h6⟩:=h.b6;exact⟨c0,c2,c3,K h6 (by omega) (by omega)⟩),?_,?_,?_,h.argsLt,?_,?_,hp,hq⟩
 ·exact Bl.rd (Bl.rd r3 K34 (fun i hi=>by have:=hS i hi;omega)) K45 (fun i hi=>by have:=List.mem_singleton.1 hi;omega)
 ·have:=heap_setCell_same W4 (q+1) 1 _ _ (.slice (some ⟨g3,0,none⟩) (ws.length+1) cap3) h7;simpa using this
 ·have:=Cl o4 ⟨q+1,1,none⟩ (by simp) (.slice (some ⟨g3,0,none⟩) (ws.length+1) cap3);simpa [strs] using this
 ·exact Bl.own (Bl.own (Bl.own h.args K13 (fun g hg e=>by have:=h.argsLt g hg;have:=List.mem_singleton.1 e;omega)) K34 (fun g hg e=>by have:=h.argsLt g hg;have:=hS _ e;omega)) K45 (fun g hg e=>by have:=h.argsLt g hg;have:=List.mem_singleton.1 e;omega)
 ·exact Bl.less (Bl.less (h.kept.trans K13) K34 (fun i hi=>.inr (by have:=hS i hi;omega))) K45 (fun i hi=>.inr (by have:=List.mem_singleton.1 hi;omega))
 ·have h1:=h.big;have h2:=K13.size;have h3:=K34.size;have h4:=K45.size;omega
theorem Gj.picked(h:Gj B p k w q rk vn ns xo xc ws W)
  {k3:Nat} (g1:W.grownBy W3 (some p)) (r3:Rd B W3 p k3):Gj B p k3 w q rk vn ns xo xc ws W3:=by
 have hp:=h.plt;have hq:=h.qge;have K13:Bl [p] W W3:=Bl.of_grown g1 (fun g hg=>by cases hg;simp);have K:∀ {i:Nat} {o:Obj},W.heap[i]?=some o→p<i→W3.heap[i]?=some o:=fun ho h1=>K13.heap ho (fun e=>by have:=List.mem_singleton.1 e;omega)
 refine⟨r3,K h.b4 hp,(by obtain⟨c0,c2,c3,h6⟩:=h.b6;exact⟨c0,c2,c3,K h6 (by omega)⟩),K h.b7 (by omega),Bl.own h.own K13 (fun g hg e=>by have:=(h.own.lt g hg).1;have:=List.mem_singleton.1 e;omega),Bl.own h.args K13 (fun g hg e=>by have:=h.argsLt g hg;have:=List.mem_singleton.1 e;omega),h.argsLt,h.kept.trans K13,Nat.le_trans h.big K13.size,hp,hq⟩
theorem Gj.filled{g6 cap6:Nat}{W6:World}{ds:List (List UInt8)}(h:Gj B p k w q rk vn ns none 0 [] W)
  (g1:W.grownBy W6 none) (o6:W6.ownsRow (q+2) 9 1 (.slice (some ⟨g6,0,none⟩) ds.length cap6) ds.length (strs ds)) :
  Gj B p k w q rk vn ns (some ⟨g6,0,none⟩) cap6 ds (W6.setCell ⟨q+1,1,none⟩ (.slice (some ⟨g6,0,none⟩) ds.length cap6)):=by
 have hp:=h.plt;have hq:=h.qge;have K1:Bl [q+1] W W6:=Bl.of_grown g1 (fun g hg=>by cases hg);have K2:=Bl.set W6 (q+1) 1 (.slice (some ⟨g6,0,none⟩) ds.length cap6);have K0:Bl [] W W6:=Bl.of_grown g1 (fun g hg=>by cases hg);have K12:=K1.trans K2;have hS:∀ i∈[q+1],p<i:=fun i hi=>by have:=List.mem_singleton.1 hi;omega
 have K:∀ {i:Nat} {o:Obj},W.heap[i]?=some o→i<q+1→(W6.setCell ⟨q+1,1,none⟩ (.slice (some ⟨g6,0,none⟩) ds.length cap6)).heap[i]?=some o:=fun ho h1=>K12.heap ho (fun e=>by have:=List.mem_singleton.1 e;omega)
 refine⟨Bl.rd h.rd K12 hS,K h.b4 (by omega),(by obtain⟨c0,c2,c3,h6⟩:=h.b6;exact⟨c0,c2,c3,K h6 (by omega)⟩),?_,Cl o6 ⟨q+1,1,none⟩ (by simp) _,Bl.own h.args K12 (fun g hg e=>by have:=h.argsLt g hg;have:=List.mem_singleton.1 e;omega),h.argsLt,Bl.less h.kept K12 (fun i hi=>.inr (by have:=List.mem_singleton.1 hi;omega)),Nat.le_trans h.big K12.size,hp,hq⟩;have:=heap_setCell_same W6 (q+1) 1 _ _ (.slice (some ⟨g6,0,none⟩) ds.length cap6) (K0.heap h.b7 (by simp));simpa using this
theorem Gj.done{k0:Nat}(h:Gj B p k w q rk vn ns xo xc ws W)(h3:ws.length≤3)(hws:∀ x∈ws,x.length≤200)(hk:k≤k0+10)(x0 x1:Value)(hkey:∃ z∈R,z.1=rk):
  Xn R B p k0 w (.returned (.agg #[.string rk,.slice xo ws.length xc])) ((W.setCell ⟨w.heap.size,0,none⟩ x0).setCell ⟨w.heap.size,1,none⟩ x1):=by
 have hp:=h.plt;have hq:=h.qge;have K1:=Bl.set W w.heap.size 0 x0;have K2:=Bl.set (W.setCell ⟨w.heap.size,0,none⟩ x0) w.heap.size 1 x1;have hS:∀ i∈[w.heap.size],p<i:=fun i hi=>by have:=List.mem_singleton.1 hi;omega
 refine⟨rk,xo,xc,k,ws,hkey,rfl,?_,h3,hws,hk,Bl.rd (Bl.rd h.rd K1 hS) K2 hS,?_⟩
 ·exact Ec (Cl (Cl h.own ⟨w.heap.size,0,none⟩ (by simp;omega) x0) ⟨w.heap.size,1,none⟩ (by simp;omega) x1) (by omega)
 ·exact(Bl.less (Bl.less h.kept K1 (fun i hi=>.inr (by have:=List.mem_singleton.1 hi;omega))) K2 (fun i hi=>.inr (by have:=List.mem_singleton.1 hi;omega))).grown
theorem Aig{p:Addr}(o:Obj)(h:w.cell? p=some v∧w.frozen? p=false):(w.alloc o).cell? p=some v∧(w.alloc o).frozen? p=false:=by
 have hb:=World.block_lt_of_cell? w p h.1;have hB:=(Below.refl w.heap.size w).alloc (Nat.le_refl _) o;exact⟨(hB.cell hb).trans h.1,(hB.frozen hb).trans h.2⟩
theorem Zu(B p k:Nat)(kind:ByteArray)(w:World)(h:Rd B w p k)(hk:k≤800000)(h1:1≤(rulesOf kind).length):
  Calls Tryz.prog 165 #[.pointer (some ⟨p,0,none⟩),.string kind] w fun e w'=>Xn (rulesOf kind) B p k w e w':=by
 have hsm:=C5 kind;have hdf:=Xm kind;have hp0:=h.lt;have z0:(w.alloc (.cells #[.string ⟨#[]⟩,.slice none 0 0] 115)).heap.size=w.heap.size+1:=by simp
 have HS:=D5 kind (w.alloc (.cells #[.string ⟨#[]⟩,.slice none 0 0] 115));generalize rulesOf kind=R at *;have K0:Bl [p] w (w.alloc (.cells #[.string ⟨#[]⟩,.slice none 0 0] 115)):=Bl.of_below ((Below.refl _ _).alloc (Nat.le_refl _) _);go_enter Tryz.func165,Tryz.ntmps165;go_wp2_with (go_at_call 56;refine HS.mono ?_)
 rintro e w1 ⟨v,L,rfl,hpl,hr,b1⟩;rw[z0]at hr b1;clear HS;have hLl:L.length=R.length:=by rw[← hpl,List.length_map]
 obtain⟨ao,cap,rfl,f1⟩:=Ai (show w1.ownsRow (w.heap.size+1) 54 4 v L.length (L.flatMap Ce.cells) from A8.head hr);rcases f1 with f1 | ⟨g,rfl⟩
 ·omega
 have K1:Bl [p] w w1:=K0.trans (Bl.of_below (by rw[z0];exact b1));have r1:Rd B w1 p k:=(h.below ((Below.refl _ _).alloc (Nat.le_refl _) _)).below (by rw[z0];exact b1);obtain⟨n,hn⟩:∃ n,L.length=n:=⟨_,rfl⟩;have HP:=Bn B p k n w1 r1 (by omega) (by have:=hsm.1;omega) (by omega);rw[hn];have HR:Hid _:=hr;clear hr;go_wp2_with (go_at_call 44;refine HP.mono ?_)
 rintro e w2 ⟨x,hx,rfl,r2,g2⟩;clear HP;have hr:=HR.out;obtain⟨D,r,T,rfl,hD⟩:=Br L x (by omega);have K12:Bl [p] w1 w2:=Bl.of_grown g2 (fun g hg=>by cases hg;simp);have K2:=K1.trans K12;have hr2:=(Cm.kept hr K12 (fun i hi=>by have:=List.mem_singleton.1 hi;omega)).rm;have hsp:=hsm.2 r.plain (by rw[← hpl];simp);have hdp:=hdf r.plain (by rw[← hpl];simp);have hkey:∃ z∈R,z.1=r.key:=⟨r.plain,by rw[← hpl];simp,rfl⟩;have c0:=hr2.cell 0 (by decide);have c1:=hr2.cell 1 (by decide);have c2:=hr2.cell 2 (by decide);have c3:=hr2.cell 3 (by decide);have o1:=hr2.args;have o2:=hr2.defs;obtain⟨rk,va,ns,many,vd,ds⟩:=r;simp only[Ce.cells,Ce.plain,hD,List.getElem?_cons_zero,List.getElem?_cons_succ,Nat.add_zero]at c0 c1 c2 c3 o1 o2 hsp hdp hkey;have HKY:=Aa hkey;clear hkey;obtain⟨bo,ca,rfl,f1⟩:=Ai o1;obtain⟨co,cb,rfl,f2⟩:=Ai o2;have hz2:=K2.size;have z1:w.heap.size+1≤w1.heap.size:=by have:=b1.size;rw[z0]at this;exact this
 have z12:=K12.size;have b4:w2.heap[w.heap.size]?=some (.cells #[.string ⟨#[]⟩,.slice none 0 0] 115 (0,0)):=Bl.heap (Bl.trans (Bl.of_below (by rw[z0];exact b1)) K12) (Al _ _) (fun e=>by have:=List.mem_singleton.1 e;omega);clear hr hr2 HR hsm hdf hpl hLl h1 r1 K0 K1 K12 g2 b1 z0 h hn;have e2:((w2.alloc (.cells #[.string rk,.slice bo ns.length ca,.bool many,.slice co ds.length cb] 54)).alloc (.cells #[.string rk,.slice none 0 0] 115)).heap.size=w2.heap.size+2:=by simp
 have B4:Below w2.heap.size w2 ((w2.alloc (.cells #[.string rk,.slice bo ns.length ca,.bool many,.slice co ds.length cb] 54)).alloc (.cells #[.string rk,.slice none 0 0] 115)):=((Below.refl _ _).alloc (Nat.le_refl _) _).alloc (by simp) _;have b6:((w2.alloc (.cells #[.string rk,.slice bo ns.length ca,.bool many,.slice co ds.length cb] 54)).alloc (.cells #[.string rk,.slice none 0 0] 115)).heap[w2.heap.size]?=some (.cells #[.string rk,.slice bo ns.length ca,.bool many,.slice co ds.length cb] 54 (0,0)):=by rw[Cy _ _ _ (by simp)];exact Al _ _
 have b7:((w2.alloc (.cells #[.string rk,.slice bo ns.length ca,.bool many,.slice co ds.length cb] 54)).alloc (.cells #[.string rk,.slice none 0 0] 115)).heap[w2.heap.size+1]?=some (.cells #[.string rk,.slice none 0 0] 115 (0,0)):=by have:=Al (w2.alloc (.cells #[.string rk,.slice bo ns.length ca,.bool many,.slice co ds.length cb] 54)) (.cells #[.string rk,.slice none 0 0] 115);simpa using this
 have HPK:=fun W hW=>Bn B p (k+1) 4 W hW (by omega) (by omega) (by omega)
 have LT:Gj B p (k+1) w w2.heap.size rk (.slice bo ns.length ca) ns none 0 [] ((w2.alloc (.cells #[.string rk,.slice bo ns.length ca,.bool many,.slice co ds.length cb] 54)).alloc (.cells #[.string rk,.slice none 0 0] 115)) :=
  ⟨r2.below B4,Bl.heap (S:=[]) (Bl.of_below B4) b4 (by simp),⟨_,_,_,b6⟩,b7,World.ownsRow_nil _ _ _ _,Cd o1 B4,fun g hg=>by have:=World.ownsRow.lt o1 g hg;omega,K2.trans (Bl.of_below B4),by omega,hp0,by omega⟩
 obtain⟨k5,hk5⟩:∃ k5,k5=k+1:=⟨_,rfl⟩;cases many
 case' false =>
  go_wp2_with (go_at_call 44;refine(HPK _ LT.rd).mono ?_)
  rintro e w5 ⟨y,hy,rfl,r5,g5⟩;have LT5:=LT.picked g5 r5;rcases Nat.eq_zero_or_pos y with rfl | hy0
  ·have K5:Bl [p] _ w5:=Bl.of_grown g5 (fun g hg=>by cases hg;simp);have b65:=K5.heap b6 (fun e=>by have:=List.mem_singleton.1 e;omega);have o25:=Bl.own (Cd o2 B4) K5 (fun g hg e=>by have:=(o2.lt g hg).1;have:=List.mem_singleton.1 e;omega);obtain⟨d1,d2,d3⟩:=hdp trivial;rcases f2 with f2 | ⟨gd,rfl⟩
   ·omega
   have hnew:=o25.cells rfl;have c63:w5.cell? ⟨w2.heap.size,3,none⟩=some (.slice (some ⟨gd,0,none⟩) ds.length cb):=by rw[Lib.cell_of_heap b65];rfl
   have c71:w5.cell? ⟨w2.heap.size+1,1,none⟩=some (.slice none 0 0):=by rw[Lib.cell_of_heap LT5.b7];rfl
   have z5:=LT5.big;obtain⟨i0,hi,hy0,hy1,hy2⟩:=info_parts Wa;have hds:(strs ds).length=ds.length * 1:=by rw[Ev];omega
   have hone:∀ u∈strs ds,u.oneCell'=true:=by intro u hu;simp only[strs,List.mem_map]at hu;obtain⟨z,_,rfl⟩:=hu;rfl
   clear LT b4 b6 b7 o1 o2 c0 c1 c2 c3 B4 e2 r2 g5 r5 b65 HPK hdp;generalize w2.heap.size=q at *;generalize hdl:ds.length=m at *;go_wp2_with (at_builtin;refine wpList_append_lies _ rfl _ _ 52 rfl (q+2) 9 i0 (.string ⟨#[]⟩) 1 16 Tryz.underlying52 hi hy0 hy1 hy2 rfl (by decide) (.slice none 0 0) 0 [] rfl (World.ownsRow_nil _ _ _ _) ⟨gd,0,none⟩ m cb (strs ds) rfl hds hnew hone (by omega) ?c3 ?c4 ?c5 w5.heap.size rfl ?_)
   case c3=>unfold maxLen;omega
   case c4=>omega
   case c5=>omega
   intro g6 cap6 w6 hown6 hgr6 hat6 hlt6;have LT6:=LT5.filled (ds:=ds) (g6:=g6) (cap6:=cap6) hgr6 (by rw[hdl];exact hown6);have K56:Bl [] w5 w6:=Bl.of_grown hgr6 (fun g hg=>by cases hg);have b76:=K56.heap LT5.b7 (by simp);have b46:=K56.heap LT5.b4 (by simp);have c70:w6.cell? ⟨q+1,0,none⟩=some (.string rk):=by rw[Lib.cell_of_heap b76];rfl
   have c72:w6.cell? ⟨q+1,1,none⟩=some (.slice none 0 0):=by rw[Lib.cell_of_heap b76];rfl
   have f72:w6.frozen? ⟨q+1,1,none⟩=false:=Lib.frozen_of_heap b76 1;have r40:w6.cell? ⟨w.heap.size,0,none⟩=some (.string ⟨#[]⟩):=by rw[Lib.cell_of_heap b46];rfl
   have r41:w6.cell? ⟨w.heap.size,1,none⟩=some (.slice none 0 0):=by rw[Lib.cell_of_heap b46];rfl
   have f40:w6.frozen? ⟨w.heap.size,0,none⟩=false:=Lib.frozen_of_heap b46 0;have f41:w6.frozen? ⟨w.heap.size,1,none⟩=false:=Lib.frozen_of_heap b46 1;have hq:=LT5.qge;have hne1:¬ w.heap.size=q+1:=by omega
   have hne2:¬ q+1=w.heap.size:=by omega
   have HE:=Aa (LT6.done (k0:=k) (by omega) d3 (by omega) (.string rk) (.slice (some ⟨g6,0,none⟩) ds.length cap6) HKY.out);rw[hdl]at HE;clear LT5 LT6 hown6 hgr6 hat6 hnew o25 hone b76 b46 K56 K5 K2 d3 hds;go_wp2;exact bodyPost_ret (v:=.agg #[.string rk,.slice (some ⟨g6,0,none⟩) m cap6]) (by simp[results,Tryz.results165,go_sem,r40,r41]) rfl HE.out
  have hy1:((y:Int) == 0)=false:=by rw[beq_eq_false_iff_ne];omega
  go_wp2;clear LT b4 b6 b7 o1 o2 c0 c1 c2 c3 B4 e2 r2 g5 r5;have LT:=LT5;clear LT5;generalize w2.heap.size=q at LT ⊢
 case' true =>
  go_wp2;clear b4 b6 b7 o1 o2 c0 c1 c2 c3 B4 e2 r2;generalize ((w2.alloc (.cells #[.string rk,.slice bo ns.length ca,.bool true,.slice co ds.length cb] 54)).alloc (.cells #[.string rk,.slice none 0 0] 115))=W at LT ⊢;generalize w2.heap.size=q at LT ⊢
 all_goals
  clear HPK hdp f2;have LT0:∃ k6,k6≤k+2∧Gj B p k6 w q rk (.slice bo ns.length ca) ns none 0 [] _:=⟨_,by omega,LT⟩;clear LT;go_loopw [8] (fun i wr=>∃(j kk xc:Nat) (xo:Option Addr) (ws:List (List UInt8)),j≤ns.length∧i=.int .i64 (j:Int)∧ws.length=j∧(∀ x∈ws,x.length≤200)∧kk≤k+2+2 * j∧Gj B p kk w q rk (.slice bo ns.length ca) ns xo xc ws wr) (fun i _=>ns.length - (intOf i).toNat)
  case atStart=>obtain⟨k6,hk6,LT⟩:=LT0;exact⟨0,k6,0,none,[],by omega,rfl,rfl,by simp,by omega,LT⟩
  case round =>
   obtain⟨j,kk,xc,xo,ws,hj,rfl,hw,hws,hkk,HL⟩:=hrel;clear LT0;subst hw;by_cases hlt:ws.length<ns.length
   ·rcases f1 with f1 | ⟨ga,rfl⟩
    ·omega
    have hpq:p<q:=Nat.lt_trans HL.plt HL.qge;have c7:wr.cell? ⟨q+1,1,none⟩=some (.slice xo ws.length xc):=by rw[Lib.cell_of_heap HL.b7];rfl
    have f7:wr.frozen? ⟨q+1,1,none⟩=false:=Lib.frozen_of_heap HL.b7 1;have c6:wr.cell? ⟨q,1,none⟩=some (.slice (some ⟨ga,0,none⟩) ns.length ca):=by obtain⟨_,_,_,h6⟩:=HL.b6;rw[Lib.cell_of_heap h6];rfl
    have cA:=HL.args.cellAt ws.length (by omega);rw[M3 ns ws.length hlt]at cA;have hown:=HL.own;have hwlt:∀ g,(Value.slice xo ws.length xc).ownBlock=some g→q+2≤g:=fun g hg=>(hown.lt g hg).1
    have hne7:(some (q+1):Option Nat)≠(Value.slice xo ws.length xc).ownBlock:=fun e=>by have:=hwlt _ e.symm;omega
    have hnp:∀ g,(Value.slice xo ws.length xc).ownBlock=some g→g ∉ [p]:=fun g hg e=>by have h1:=hwlt g hg;have h2:=List.mem_singleton.1 e;omega
    have ht:=hsp.2 ns[ws.length] (List.getElem_mem _);have H:=fun W hW=>Zt B p kk ns[ws.length] ht.1 ht.2 W hW (by omega)
    have HR:=HL.rd;have hbig:=HL.big;have HH:Hid _:=HL;have hw3:ws.length≤3:=by have:=hsp.1;omega
    obtain⟨i0,hi,hy0,hy1,hy2⟩:=info_parts Wa;generalize ns[ws.length]=t at *;have hnl:ns.length≤3:=hsp.1;clear HL ht hsp;generalize hns:ns.length=n at *;go_wp2
    go_region_law (first
     | (refine step_append_lies _ (by rfl) _ _ _ (by rfl) (q+2) 9 i0 (.string ⟨#[]⟩) 1 16 Tryz.underlying52 hi hy0 hy1 hy2 rfl (by decide) (.slice xo ws.length xc) ws.length (strs ws) (by rfl) (own3.alloc _) ⟨w3.heap.size,0,none⟩ 1 1 [.string u] (by rfl) (by rfl) (World.news_of_block (cs:=#[.string u]) (t:=9) (fr:=(0,0)) (heap_alloc_new w3 _)) (by simp[Value.oneCell']) (by omega) (by unfold maxLen;omega) (by omega) (by simp;omega) (w3.heap.size+1) (by simp) ?_;intro g4 cap4 w4 hown4 hgr4 hat4 hlt4;have hk4:=Aau hc4 hgr4 hne7;have hk5:=hk4.1;have hk6:=hk4.2)
     | (go_simp;go_wp2_with (go_at_call 219;refine(H _ (Xk HR 1)).mono ?_;rintro e w3 ⟨u,k3,hu,hk3,rfl,r3,g3'⟩;have g3:=Ahp g3';have hsz3:=Nat.le_trans hbig g3.size;have own3:=Bl.own hown (Bl.of_grown (S:=[p]) g3 (fun g hg=>by cases hg;simp)) hnp;have hc3:=Aau ⟨c7,f7⟩ g3 (by simp;omega);have hc3a:=hc3.1;have hc3b:=hc3.2;have hc4:=Aig (.cells #[.string u] 9) hc3;have hc4a:=hc4.1;have hc4b:=hc4.2)))
    all_goals
     have HN:=HH.out.next g3 r3 hgr4 hown4;go_wp2;go_roundw;case rel =>
      refine⟨ws.length+1,k3,cap4,some ⟨g4,0,none⟩,ws++[u.data.toList],by omega,by go_num,by simp,?_,by omega,HN⟩;intro x hx;rcases List.mem_append.1 hx with hx | hx
      ·exact hws x hx
      ·rw[List.mem_singleton.1 hx,Array.length_toList];exact hu
     case measure=>simp[intOf];omega
   ·have c60:wr.cell? ⟨q,1,none⟩=some (.slice bo ns.length ca):=by obtain⟨_,_,_,h6⟩:=HL.b6;rw[Lib.cell_of_heap h6];rfl
    have c70:wr.cell? ⟨q+1,0,none⟩=some (.string rk):=by rw[Lib.cell_of_heap HL.b7];rfl
    have c71:wr.cell? ⟨q+1,1,none⟩=some (.slice xo ws.length xc):=by rw[Lib.cell_of_heap HL.b7];rfl
    have r40:wr.cell? ⟨w.heap.size,0,none⟩=some (.string ⟨#[]⟩):=by rw[Lib.cell_of_heap HL.b4];rfl
    have r41:wr.cell? ⟨w.heap.size,1,none⟩=some (.slice none 0 0):=by rw[Lib.cell_of_heap HL.b4];rfl
    have f40:wr.frozen? ⟨w.heap.size,0,none⟩=false:=Lib.frozen_of_heap HL.b4 0;have f41:wr.frozen? ⟨w.heap.size,1,none⟩=false:=Lib.frozen_of_heap HL.b4 1;have HE:=Aa (HL.done (k0:=k) (by have:=hsp.1;omega) hws (by have:=hsp.1;omega) (.string rk) (.slice xo ws.length xc) HKY.out);clear HL hsp hws;generalize hns:ns.length=n at *;go_wp2;exact bodyPost_ret (v:=.agg #[.string rk,.slice xo ws.length xc]) (by simp[results,Tryz.results165,go_sem,r40,r41]) rfl HE.out
end Go.Proofs.YtpdahhnjhggocaaGreatDoor
