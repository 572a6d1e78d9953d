import Derived.Test.YtpdahhnjhggocaaGreatDoorMr13
open Go.Proofs.Tryz
open Go.Value renaming string->aA,slice->aB,slice->bF
open List renaming getElem?_cons_zero->aC,getElem?_toArray->aD,getElem?_cons_succ->aI,length_append->aL,flatMap_append->aM,mem_append->aQ,length_cons->aS,size_toArray->aX,append_assoc->aY,not_mem_nil->aZ,nil_append->bA,drop_left'->bB,take_left->bC,mem_cons->bE
open Nat renaming le_refl->aE,lt_succ_self->aT,zero_add->bG,le_trans->bH
open Option renaming some->aF,none->aG
open Go.Obj renaming cells->aH
open ByteArray renaming size_append->aJ
open Go.RowKit.Below renaming refl->aK
open Option.some renaming inj->aN
open Go.World renaming block_lt_of_cell?->aO,size_alloc->aR,ownsRow_lit->aW
open Go.NoPanic renaming normal->aP
open Array renaming getElem?_eq_some_iff->aU,size->bI
open Go.IntKind renaming wrap_i64->aV,i64->bD
namespace Go.Proofs.YtpdahhnjhggocaaGreatDoor
open Go.RowKit
set_option maxHeartbeats 16000000
set_option maxRecDepth 100000
variable {X n c Y S B p k kk:Nat}{W W' w w2 w1 u:World}{bk bn rk:ByteArray}{bv v v0:Value}{ls ls':List LAt}{bs bs':List BAt}
def Fi(X:Nat)(W:World):Nat:=match W.cell? ⟨X,0,aG⟩ with
 | some (aB _ n _)=>n
 | _=>0
def FZ(Y:Nat)(W:World):Nat:=match W.cell? ⟨Y,2,aG⟩ with
 | some (aB _ n _)=>n
 | _=>0
theorem I9{a:Option Addr}(h:W.cell? ⟨X,0,aG⟩=aF (aB a n c)):Fi X W=n:=by unfold Fi;rw[h]
theorem JN{a:Option Addr}(h:W.cell? ⟨Y,2,aG⟩=aF (aB a n c)):FZ Y W=n:=by unfold FZ;rw[h]
theorem Cz.x{b:BAt}(h:Cz b):E9 b.name b.ls:=⟨bH h.2.1 (by decide),h.ac⟩
theorem Aco{b:BAt}(h:Cz b):∀x∈b.ls,Wk x:=fun x a=>h.2.2.2 x a
def Aei(B p k:Nat)(w1:World)(X:Nat)(o:Value)(W:World):Prop:=∃(t:ByteArray) (kk:Nat) (v:Value) (bs:List BAt),o=aA t/\bs.length<=62/\t.size+bs.length*31400<=1946800/\kk+bs.length*110<=k+6820/\(∀b∈bs,Cz b)/\IV B p w1 X kk v bs W
def Aej(B p K N:Nat)(w1:World)(X Y:Nat)(v:Value)(bs:List BAt)(kind name:ByteArray)(o:Value)(W:World):Prop:=∃(t:ByteArray) (kk:Nat) (bv:Value) (ls:List LAt),o=aA t/\ls.length<=11/\t.size+ls.length*2800<=N/\kk+ls.length*9<=K/\(∀x∈ls,Wk x)/\IV B p w1 X kk v bs W/\Lk w1.heap.size X Y kind name bv ls W
theorem Lk.turnS(h:Lk c S Y bk bn bv ls W)(a:W.grownBy W' (aF S)):Lk c S Y bk bn bv ls W' :=
 ⟨(a.block Y h.lt (by intro e;exact h.YS (aN e))).trans h.box,h.cY,h.YS,h.free.grown a (.inr (by simp)),h.ah⟩
theorem V8(l:List UInt8):(CZ l).length<=3*l.length+2:=by
 unfold CZ;split
 ·omega
 ·have:=RT l;simp only[GW,aL,aS,List.length_nil];omega
theorem IV.start{a:Option Addr}(h:Rd B w p k)(g:Below (w.heap.size+1) (w.alloc (aH #[v] 25)) w2)(d:Ax (w.heap.size+1) w2 (aB a n c) bs)(i:∀b∈bs,Cz b):IV B p (w.alloc (aH #[v] 25)) w2.heap.size k (aB a n c) bs (w2.alloc (aH #[aB a n c] 25)):=by
 have r:=g.size;have j:(w.alloc (aH #[v] 25)).heap.size=w.heap.size+1:=by simp
 have s:=h.lt;have l:=(aK w.heap.size w).alloc (aE _) (aH #[v] 25);have f:=(aK w2.heap.size w2).alloc (aE _) (aH #[aB a n c] 25);have e:Below (w.alloc (aH #[v] 25)).heap.size (w.alloc (aH #[v] 25)) w2:=by rw[j];exact g
 exact⟨((h.V l).V e).V f,Ar (e.trans (f.mono e.size)) _,Ai _ _,e.size,by omega,d.bin.V f,fun q t=>d.aj (by omega),⟨Bx.of_lt d.bin.1 (by decide) (aE _),fun x m=>Ap.fresh (d.bin.2 x m) (aE _)⟩,fun b o=>(i b o).x⟩
theorem Afw{U:World}{e z M:Nat}{a b c:ByteArray}(h:U.heap[e]?=aF (aH #[aA a,aA b,aA c] 9 (0,0)))(f:z<3)(g:a.size<=M)(i:b.size<=M)(j:c.size<=M):∃u:ByteArray,u.size<=M/\U.cell? ⟨e,z,aG⟩=aF (aA u):=by
 have d:=Aa h z
 match z,f,d with
 | 0,_,d=>exact⟨a,g,d⟩
 | 1,_,d=>exact⟨b,i,d⟩
 | 2,_,d=>exact⟨c,j,d⟩
theorem Aek{f:World}{j:ByteArray}{a:Option Addr}(d:IV B p w1 X kk v0 bs f)(k:Lk w1.heap.size X Y rk j bv ls f)(m:A7 Y v0 bs)(i:Below f.heap.size f u)(h:u.ownsRow f.heap.size 46 3 (aB a n c) bs'.length (bs'.flatMap BAt.cells))(g:∀x∈bs',x∈bs):IV B p w1 X kk (aB a n c) bs' (u.setCell ⟨X,0,aG⟩ (aB a n c))/\Lk w1.heap.size X Y rk j bv ls (u.setCell ⟨X,0,aG⟩ (aB a n c))/\A7 Y (aB a n c) bs':=by
 have l:=d.V i;have o:=d.Slt;have r:=k.lt;have w:=d.gr.size;have e:=setCell_eq_setRow u X 0 _ _ _ (aB a n c) l.box;have s:=Br u X #[aB a n c];have t:u.setCell ⟨X,0,aG⟩ (aB a n c)=u.setRow X #[aB a n c]:=by rw[e];rfl
 rw[t];refine⟨l.put ⟨AF h,fun x b=>(d.bin.2 x (g x b)).V i⟩ (fun q v=>⟨Bx.above h (by omega),fun x b=>(d.abv q v).2 x (g x b)⟩) ⟨Bx.above h o,fun x b=>d.farS.2 x (g x b)⟩ (fun x b=>d.ah x (g x b)),(k.V i).turnS s,⟨Bx.above h r,fun x b=>m.2 x (g x b)⟩⟩
theorem Acp{e:World}{k:ByteArray}{a:Option Addr}(h:IV B p w1 X kk v bs e)(b:Lk w1.heap.size X Y rk k bv ls e)(o:A7 Y v bs)(i:Below e.heap.size e u)(j:u.ownsRow e.heap.size 115 2 (aB a n c) ls'.length (ls'.flatMap LAt.cells))(g:∀x∈ls',x∈ls)(r:ls'.length<=ls.length):IV B p w1 X kk v bs (u.setCell ⟨Y,2,aG⟩ (aB a n c))/\Lk w1.heap.size X Y rk k (aB a n c) ls' (u.setCell ⟨Y,2,aG⟩ (aB a n c)):=by
 have s:=h.V i;have l:=b.V i;have t:=h.Slt;have w:=b.lt;have y:=h.gr.size;have m:=AN u Y 2 (aB a n c);refine⟨s.turn m b.cY b.YS o,l.put m (by rw[heap_setCell_same u Y 2 _ _ _ l.box];rfl) ⟨⟨AF j,fun x d=>(b.free.1.2 x (g x d)).V i⟩,fun q f=>⟨Bx.above j ?_,fun x d=>(b.free.2.1 q f).2 x (g x d)⟩,fun q f=>⟨Bx.above j (by omega),fun x d=>(b.free.2.2 q f).2 x (g x d)⟩⟩ ⟨b.ah.1,bH r b.ah.2.1,fun x d=>b.ah.2.2 x (g x d)⟩⟩;simp only[bE,aZ,or_false]at f;rcases f with rfl|rfl <;> omega
theorem Og(B p k:Nat)(w:World)(h:Rd B w p k)(g3:k<=500000)(dp:Au w v bs)(fs:bs.length<=62)(dq:∀b∈bs,Cz b):Calls prog 77 #[.pointer (aF ⟨p,0,aG⟩),.agg #[v]] w fun e w'=>GL 1946800 B p w e w' k 6820:=by
 obtain⟨va,b1,rfl⟩:=dp.1.ad;have g4:=h.lt;have eh:=(aK w.heap.size w).alloc (aE _) (aH #[aB va bs.length b1] 25);have s:(w.alloc (aH #[aB va bs.length b1] 25)).heap.size=w.heap.size+1:=by simp
 have ei:=AH (w:=w) (cs:=#[aB va bs.length b1]) (T:=25) 0;simp only[aD,aC]at ei;have dr:=Di (dp.V eh) (Er (by omega) dq);rw[s]at dr;have ds:=Ab h;have I:=Ab dq;have ft:=Ab (show ∀l:List BAt,l.map BAt.I=bs.map BAt.I->l.length<=62 from fun l e=>by have:=congrArg List.length e;simp only[List.length_map]at this;omega);clear h dp dq eh fs;generalize bs.length=ej at *;go_enter func77,ntmps77;go_wp2_with (go_at_call 55;refine dr.mono ?_)
 rintro e w2 ⟨v2,b2,rfl,cv,o2,dt⟩;obtain⟨a2,c2,rfl,_⟩:=Al o2.row;have fu:=Ab (BI (World.grownBy_alloc w (aH #[aB va ej b1] 25) aG) (aF p));have ek:=Ab (IV.start ds.out dt o2 (Hr I.out cv));have el:=Ab (Hr I.out cv);have em:b2.length<=62:=ft.out b2 cv;have fv:=dt.size;rw[s]at fv;clear dr cv o2 dt ei;generalize fx:w.alloc (aH #[aB va ej b1] 25)=w1 at *;generalize g5:w2.heap.size=X at *;clear fx;have en:=Ab (show Aei B p k w1 X (aA ⟨#[]⟩) (w2.alloc (aH #[aB a2 b2.length c2] 25)) from⟨⟨#[]⟩,k,_,b2,rfl,em,by show 0+_<=_;omega,by omega,el.out,ek.out⟩);clear ek el em;generalize b2.length=g6 at *;go_wp2;go_loopw [5] (fun o wr=>Aei B p k w1 X o wr) (fun _ W=>Fi X W)
 case atStart=>exact en.out
 case round =>
  clear en;obtain⟨t,kk,v,bs,rfl,g7,g8,g9,du,I⟩:=hrel;obtain⟨E,V,rfl⟩:=I.bin.1.ad;have c0:=Aa I.box 0;simp only[aD,aC]at c0;have fy:=Ab (I9 c0);by_cases ha:bs.length=0
  ·have fz:¬((0:Int)<(bs.length:Int)):=by omega
   have ar:=I.gr;have f0:=Ab (show GL 1946800 B p w (.returned (aA t)) wr k 6820 from⟨t,kk,by omega,by omega,rfl,I.rd,Ah fu.out ar⟩);clear I du ar;generalize bs.length=n at *;go_wp2;go_ret;exact f0.out
  ·have fz:((0:Int)<(bs.length:Int)):=by omega
   have ag:=A1 B p kk bs.length wr I.rd (by omega) (by omega) (by omega);have b3:=Ab I;have bc:=Ab du;clear I du;generalize eo:bs.length=n at *;have bm:=Ab eo;clear eo;go_wp2_with (go_at_call 44;refine ag.mono ?_)
   rintro e w3 ⟨y,b4,rfl,b5,bn⟩;have Z:=b3.out.grown bn b5;obtain⟨D,r,T,cw,dv⟩:=AC bs y (by have:=bm.out;omega);have dw:=Z.bin;have ak:r∈bs:=by rw[cw];simp
   have bd:=dw.2 r ak;have be:=dw.1;rw[cw]at be;obtain⟨b0,off,f1,cx,cy,dx⟩:=be.block;subst f1;obtain⟨b6,b7,b8⟩:=Am.ad bd.1;rw[b8]at dx;simp only[dv]at cx cy dx;have c3:=Aa Z.box 0;simp only[aD,aC]at c3;have hb:(0:Int)<=(y:Int):=by omega
   have hc:(y:Int)<(n:Int):=by omega
   have f2:=Z.gr.size;have hd:=Z.Slt;have dy:=(aK w3.heap.size w3).alloc (aE _) (aH #[aA r.aa,aA r.name,aB b6 r.ls.length b7] 46);have bo:=Ab (Z.V dy);have bd:Ap w3 r.v r.ls:=bd;rw[b8]at bd;have ep:=Ab (show Lk w1.heap.size X w3.heap.size r.aa r.name (aB b6 r.ls.length b7) r.ls (w3.alloc (aH #[aA r.aa,aA r.name,aB b6 r.ls.length b7] 46)) from⟨Ai _ _,f2,by omega,⟨Ap.V bd dy,fun q ae=>by
    simp only[bE,aZ,or_false]at ae;rcases ae with rfl|rfl
    ·have:=Z.farS.2 r ak;rw[b8]at this;exact this
    ·exact Ap.fresh bd (aE _),fun q ae=>by have:=(Z.abv q ae).2 r ak;rw[b8]at this;exact this⟩,(bc.out r ak).x⟩)
   have eq:=Ab (show A7 w3.heap.size (aB (aF ⟨b0,off,aG⟩) n V) bs from⟨by have:=Bx.of_lt Z.bin.1 (by decide) (aE w3.heap.size);rw[bm.out]at this;rw[bm.out];exact this,fun x C=>Ap.fresh (Z.bin.2 x C) (aE _)⟩);have er:=Ab (Aco (bc.out r ak));have f3:=Ab (bc.out r ak);have a5:=Ab cw;have bp:=Ab dv;have he:r.aa.size<=20:=(bc.out r ak).1;have hf:r.name.size<=30:=(bc.out r ak).2.1;have f4:r.ls.length<=11:=(bc.out r ak).2.2.1;clear ag b3 b5 bn Z dw ak bd be b8 cw dv dy;generalize r.aa=rk at *;generalize r.name=J at *;generalize es:r.ls.length=a6 at *;have dz:=Ab es;clear es;go_upto_region 6 with fail
   generalize et:w3.alloc (aH #[aA rk,aA J,aB b6 a6 b7] 46)=g at *;have hg:=Ab et;generalize hh:w3.heap.size=Y at *;have au:=Aa bo.out.box 0;simp only[aD,aC]at au;have av:=Ab (show Am g (aB (aF ⟨b0,off,aG⟩) n V) n 3 ((D++r::T).flatMap BAt.cells) from by have:=bo.out.bin.1;rw[a5.out]at this;have e:=bm.out;rw[a5.out]at e;rw[e]at this;exact this);have f5:n<=V:=av.out.cap.1;clear cx cy dx c3 c0 et;generalize (aF ⟨b0,off,aG⟩:Option Addr)=E at *;have hi:(0:Int)<=(y:Int):=by omega
   have f6:(y:Int)<=(n:Int):=by omega
   have f7:(n:Int)<=(V:Int):=by omega
   have f8:(y:Int)<=(V:Int):=by omega
   have f9:(0:Int)<=(y:Int)+1:=by omega
   have ga:(y:Int)+1<=(n:Int):=by omega
   have gb:bD.wrap ((y:Int)+1)=(y:Int)+1:=by rw[aV];omega
   have b9:g.drew.cell? ⟨X,0,aG⟩=aF (aB E n V):=au;have ca:=fun p:{ W:World // W.cell? ⟨X,0,aG⟩=aF (aB E n V) }=>p.2
   letI:Inhabited { W:World // W.cell? ⟨X,0,aG⟩=aF (aB E n V) }:=⟨⟨g.drew,b9⟩⟩;refine AK (S:=fun W=>W.cell? ⟨X,0,aG⟩=aF (aB E n V)) 13 14 (by kernel_rfl) rfl ?_;refine A9 [false,true,true,true,true,false,true,true,true,true,true,false,false,false] 5 rfl (by kernel_rfl) b9 ?_;simp only[AZ,Bc,AX];iterate 9 (refine A2 (fun K d=>?_);go_simp;refine d _ ?_;clear d K)
   refine A8 ?_;have cb:=Ab (show Am g (aB E y V) y 3 (D.flatMap BAt.cells) from by
    have af:=av.out.take y (by omega);rw[aM,<-bp.out,<-Bs BAt.cells 3 BAt.len D,bC]at af;rw[<-bp.out];exact af)
   have bf:=Ab (show Am g (aB (if V=y+1 then E else E.map (fun a=>a.add ((y+1)*3))) (n-(y+1)) (V-(y+1))) (n-(y+1)) 3 (T.flatMap BAt.cells) from by
    have af:=av.out.drop (y+1) (by omega);rw[show (D++r::T).flatMap BAt.cells=(D++[r]).flatMap BAt.cells++T.flatMap BAt.cells by rw[<-aM,aY];rfl,bB (by rw[Bs BAt.cells 3 BAt.len,aL,bp.out];rfl)]at af;exact af)
   have bg:=Ab (show ∀A∈bs,∃a n c,A.v=aB a n c from fun A G=>by obtain⟨a,c,e⟩:=Am.ad (bo.out.bin.2 A G).1;exact⟨a,_,c,e⟩);have cc:=Ab (Gt (bs:=D) (fun A G=>bg.out A (by rw[a5.out];simp[G])));have cd:=Ab (Gt (bs:=T) (fun A G=>bg.out A (by rw[a5.out];simp[G])));have ce:T.length=n-(y+1):=by have e:=bm.out;rw[a5.out]at e;simp only[aL,aS,bp.out]at e;omega
   obtain⟨i0,cf,cg,ch,ci⟩:=info_parts Cj;generalize (if V=y+1 then E else E.map (fun a=>a.add ((y+1)*3)))=gc at bf⊢;have z:=Ab (show ∀u,Below g.heap.size g u->u.cell? ⟨X,0,aG⟩=aF (aB E n V) from fun u d0=>(d0.cell (aO g _ au)).trans au);refine Af (f:=4) (rs:=[0]) (by kernel_rfl) (by simp) ?_;refine Ag.cons rfl (by decide) (fun K d=>?_) Ag.nil;go_simp;have ab:Below g.heap.size g (g.alloc (aH #[] 46)).drew:=((aK g.heap.size g).alloc (aE _) (aH #[] 46)).drew;have cj:(g.alloc (aH #[] 46)).drew.ownsRow g.heap.size 46 3 (aB (aF ⟨g.heap.size,0,aG⟩) 0 0) 0 []:=aW (base:=g.heap.size) (e:=46) (size:=3) g #[] 0 (aE _) (by decide) rfl;refine d.out _ _ (z.out _ ab) ?_;clear d K;refine Af (f:=3) (rs:=[5]) (by kernel_rfl) (by simp) ?_;refine Ag.cons rfl (by decide) (fun K d=>?_) Ag.nil;refine A0 rfl _ _ 23 rfl g.heap.size 46 i0 _ 3 56 underlying23 cf cg ch ci rfl (by decide) _ 0 _ rfl cj _ y _ rfl (cb.out.V ab) cc.out (by unfold maxLen;omega) (by omega) ab.size ?_;intro d1 c5 u5 aw ck _;simp only[bG,bA]at aw⊢;have ac:=ab.grown ck ab.size (fun q ae=>by cases ae;exact aE _);refine d.out _ _ (z.out _ ac) ?_;clear d K;refine Af (f:=2) (rs:=[11]) (by kernel_rfl) (by simp) ?_;refine Ag.cons rfl (by decide) (fun K d=>?_) Ag.nil;have cl:∀q,(bF d1 y c5).ownBlock=aF q->g.heap.size<=q:=fun q ae=>(aw.lt q ae).1
   refine A0 rfl _ _ 23 rfl g.heap.size 46 i0 _ 3 56 underlying23 cf cg ch ci rfl (by decide) _ y _ rfl aw _ (n-(y+1)) _ rfl (bf.out.V ac) cd.out (by unfold maxLen;omega) (by omega) ac.size ?_;intro cz c9 gd d2 eu _;have c1:=ac.grown eu ac.size cl;refine d.out _ _ (z.out _ c1) ?_;clear d K aw ck eu cl ac ab cj;refine Af (f:=1) (rs:=[12]) (by kernel_rfl) (by simp) ?_;refine Ag.cons rfl (by decide) (fun K d=>?_) Ag.nil;go_simp;refine d.out _ _ (z.out _ c1) ?_;clear d K;have z9:=(bo.out.V c1).box;have ge:=Aa z9 0;have hj:=Ac z9 0;simp only[aD,aC]at ge;have ax:y+(n-(y+1))=n-1:=by omega
   have d3:(D++T).length=n-1:=by rw[aL,bp.out,ce];exact ax
   have ev:=Aek (bs':=D++T) (n:=n-1) bo.out ep.out eq.out c1 (by rw[aM,d3];rw[ax]at d2;exact d2) (fun x C=>by rw[a5.out];rcases aQ.1 C with C|C <;> simp[C])
   rw[ax];have al:=Ab ev;have gf:=Ab (show ∀b∈D++T,Cz b from fun b c4=>bc.out b (by rw[a5.out];rcases aQ.1 c4 with C|C <;> simp[C]))
   have d4:=Ab d3;clear d2 ev cb bf bg cc cd av z bo ep eq ax d3 a5 bp bm ce;generalize ad:n-1=m at *;have hk:m+1=n:=by omega
   clear ad;refine Bi (by kernel_rfl) rfl (by kernel_rfl) ?_;intro K d;go_simp;refine d.out _ _ (aP ?_);clear d K;generalize gg:gd.setCell ⟨X,0,aG⟩ (aB cz m c9)=ah at *;clear gg;go_upto_region 7 with fail
   go_cut [5] from 41 to 59 (fun o ew=>∃t9:ByteArray,o=aA t9/\t9.size<=t.size+67/\Rd B ew p (kk+1+1+1)/\ah.grownBy ew (aF p))
   case first =>
    have k0:=Aa al.out.2.1.box 0;have ex:=Aa al.out.2.1.box 1;simp only[aD,aC,aI]at k0 ex;have bq:=al.out.1.plt;have z:=Ab (show ∀W,ah.grownBy W (aF p)->W.cell? ⟨Y,0,aG⟩=aF (aA rk)/\W.cell? ⟨Y,1,aG⟩=aF (aA J) from fun W ar=>by
     have c4:=(al.out.2.1.grown ar bq).box;have ey:=Aa c4 0;have d5:=Aa c4 1;simp only[aD,aC,aI]at ey d5;exact⟨ey,d5⟩)
    have a7:ah.grownBy ah.drew (aF p):=Ar (aK _ _).drew _;have br:Rd B ah.drew p (kk+1):=al.out.1.rd.V (aK _ _).drew;have hl:t.size<=1946800:=by omega
    have ca:=fun p:{ W:World // W.cell? ⟨Y,0,aG⟩=aF (aA rk)/\W.cell? ⟨Y,1,aG⟩=aF (aA J) }=>p.2.1
    have s:=fun p:{ W:World // W.cell? ⟨Y,0,aG⟩=aF (aA rk)/\W.cell? ⟨Y,1,aG⟩=aF (aA J) }=>p.2.2
    letI:Inhabited { W:World // W.cell? ⟨Y,0,aG⟩=aF (aA rk)/\W.cell? ⟨Y,1,aG⟩=aF (aA J) }:=⟨⟨ah.drew,z.out _ a7⟩⟩;refine AK (S:=fun W=>W.cell? ⟨Y,0,aG⟩=aF (aA rk)/\W.cell? ⟨Y,1,aG⟩=aF (aA J)) 19 20 (by kernel_rfl) rfl ?_;refine A9 [true,true,false,false,false,true,true,false,false,true,true,false,false,true,false,false,false,false,false,false] 13 rfl (by kernel_rfl) (z.out _ a7) ?_;simp only[AZ,Bc,AX];iterate 7 (refine A2 (fun K d=>?_);go_simp;refine d _ ?_;clear d K)
    refine A8 ?_;clear ca s k0 ex;refine Af (f:=12) (rs:=[2,12]) (by kernel_rfl) (by simp) ?_;refine Ag.cons rfl (by decide) (fun K d=>?wayA) (Ag.cons rfl (by decide) (fun K d=>?wayB) Ag.nil);case' wayA =>
     go_simp;go_wp2_with (go_at_call 44;refine(A1 B p (kk+1) 3 _ br (by omega) (by omega) (by omega)).mono ?_;rintro e O ⟨am,ez,rfl,an,bh⟩)
     have P:=Ah a7 bh;refine d.out _ _ (z.out _ P) ?_;clear d K;refine Af (f:=11) (rs:=[3,12]) (by kernel_rfl) (by simp) ?_;refine Ag.cons rfl (by decide) (fun K d=>?wayAa) (Ag.cons rfl (by decide) (fun K d=>?wayAb) Ag.nil)
    case' wayAa =>
     go_simp;go_wp2_with (go_at_call 80;refine(C8 ⟨#[32]⟩ am _ (by decide) (by omega)).mono ?_;rintro e O ⟨s,ai,rfl,rfl⟩)
     have c6:s.size<=2:=by rw[ai];show 1*am<=2;omega
     clear ai;refine d.out _ _ (z.out _ P) ?_;clear d K;have c7:¬ 9223372036854775807<t.size+s.size:=by omega
     have c8:¬ 9223372036854775807<t.size+s.size+rk.size:=by omega
     have e0:¬ 9223372036854775807<t.size+s.size+rk.size+2:=by omega
     have e1:¬ 9223372036854775807<t.size+s.size+rk.size+2+J.size:=by omega
     refine A9 [false,false,false,false,true,false,false,true,true,false,false,true,false,false,false,false,false,false,false,false] 7 rfl (by kernel_rfl) (z.out _ P) ?_;simp only[AZ,Bc,AX];iterate 4 (refine A2 (fun K d=>?_);go_simp;refine d _ ?_;clear d K)
     refine A8 ?_;refine Af (f:=6) (rs:=[12,14]) (by kernel_rfl) (by simp) ?_;refine Ag.cons rfl (by decide) (fun K d=>?wayAa1) (Ag.cons rfl (by decide) (fun K d=>?wayAa2) Ag.nil)
    case' wayAa1 =>
     go_simp;have F:=Ai O (aH #[aA ⟨#[]⟩,aA ⟨#[32,35,32,97,32,99,111,109,109,101,110,116]⟩,aA ⟨#[32]⟩] 9);have L:=(aK O.heap.size O).alloc (aE _) (aH #[aA ⟨#[]⟩,aA ⟨#[32,35,32,97,32,99,111,109,109,101,110,116]⟩,aA ⟨#[32]⟩] 9);have N:=Ah P (Ar L (aF p));have ay:=an.V L;have d6:=an.lt;refine d.out _ _ (z.out _ N) ?_;clear d K;refine Af (f:=5) (rs:=[14]) (by kernel_rfl) (by simp) ?_;refine Ag.cons rfl (by decide) (fun K d=>?_) Ag.nil;go_simp;go_wp2_with (go_at_call 44;refine(A1 B p (kk+1+1) 3 _ ay (by omega) (by omega) (by omega)).mono ?_;rintro e U ⟨A,G,rfl,da,aj⟩)
     have ao:=Ah N aj;refine d.out _ _ (z.out _ ao) ?_;clear d K;have F:=(aj.block _ (by rw[aR];exact aT _) (by intro e;have:=aN e;omega)).trans F;clear N ay aj L;generalize O.heap.size=bi at *
    case' wayAa2 =>
     go_simp;go_wp2_with (go_at_call 44;refine(A1 B p (kk+1+1) 3 _ an (by omega) (by omega) (by omega)).mono ?_;rintro e bt ⟨A,G,rfl,ay,aj⟩)
     have N:=Ah P aj;refine d.out _ _ (z.out _ N) ?_;clear d K;refine Af (f:=5) (rs:=[12]) (by kernel_rfl) (by simp) ?_;refine Ag.cons rfl (by decide) (fun K d=>?_) Ag.nil;go_simp;have F:=Ai bt (aH #[aA ⟨#[]⟩,aA ⟨#[32,35,32,97,32,99,111,109,109,101,110,116]⟩,aA ⟨#[32]⟩] 9);have L:=(aK bt.heap.size bt).alloc (aE _) (aH #[aA ⟨#[]⟩,aA ⟨#[32,35,32,97,32,99,111,109,109,101,110,116]⟩,aA ⟨#[32]⟩] 9);have ao:=Ah N (Ar L (aF p));have da:=ay.V L;have d6:=ay.lt;refine d.out _ _ (z.out _ ao) ?_;clear d K;generalize gh:bt.alloc (aH #[aA ⟨#[]⟩,aA ⟨#[32,35,32,97,32,99,111,109,109,101,110,116]⟩,aA ⟨#[32]⟩] 9)=U at *;clear gh L;generalize bt.heap.size=bi at *
    case' wayAb =>
     go_simp;have F:=Ai O (aH #[aA ⟨#[]⟩,aA ⟨#[32,35,32,97,32,99,111,109,109,101,110,116]⟩,aA ⟨#[32]⟩] 9);have L:=(aK O.heap.size O).alloc (aE _) (aH #[aA ⟨#[]⟩,aA ⟨#[32,35,32,97,32,99,111,109,109,101,110,116]⟩,aA ⟨#[32]⟩] 9);have N:=Ah P (Ar L (aF p));have ay:=an.V L;have d6:=an.lt;refine d.out _ _ (z.out _ N) ?_;clear d K;refine Af (f:=10) (rs:=[3]) (by kernel_rfl) (by simp) ?_;refine Ag.cons rfl (by decide) (fun K d=>?_) Ag.nil;go_simp;go_wp2_with (go_at_call 80;refine(C8 ⟨#[32]⟩ am _ (by decide) (by omega)).mono ?_;rintro e O ⟨s,ai,rfl,rfl⟩)
     have c6:s.size<=2:=by rw[ai];show 1*am<=2;omega
     clear ai;refine d.out _ _ (z.out _ N) ?_;clear d K;have c7:¬ 9223372036854775807<t.size+s.size:=by omega
     have c8:¬ 9223372036854775807<t.size+s.size+rk.size:=by omega
     have e0:¬ 9223372036854775807<t.size+s.size+rk.size+2:=by omega
     have e1:¬ 9223372036854775807<t.size+s.size+rk.size+2+J.size:=by omega
     refine A9 [false,false,false,false,true,false,false,true,true,false,false,true,false,false,false,false,false,false,false,false] 6 rfl (by kernel_rfl) (z.out _ N) ?_;simp only[AZ,Bc,AX];iterate 4 (refine A2 (fun K d=>?_);go_simp;refine d _ ?_;clear d K)
     refine A8 ?_;refine Af (f:=5) (rs:=[14]) (by kernel_rfl) (by simp) ?_;refine Ag.cons rfl (by decide) (fun K d=>?_) Ag.nil;go_simp;go_wp2_with (go_at_call 44;refine(A1 B p (kk+1+1) 3 _ ay (by omega) (by omega) (by omega)).mono ?_;rintro e U ⟨A,G,rfl,da,aj⟩)
     have ao:=Ah N aj;refine d.out _ _ (z.out _ ao) ?_;clear d K;have F:=(aj.block _ (by rw[aR];exact aT _) (by intro e;have:=aN e;omega)).trans F;generalize O.heap.size=bi at *
    case' wayB =>
     go_simp;have F:=Ai ah.drew (aH #[aA ⟨#[]⟩,aA ⟨#[32,35,32,97,32,99,111,109,109,101,110,116]⟩,aA ⟨#[32]⟩] 9);have L:=(aK ah.drew.heap.size ah.drew).alloc (aE _) (aH #[aA ⟨#[]⟩,aA ⟨#[32,35,32,97,32,99,111,109,109,101,110,116]⟩,aA ⟨#[32]⟩] 9);have P:=Ah a7 (Ar L (aF p));have an:=br.V L;have d6:=br.lt;refine d.out _ _ (z.out _ P) ?_;clear d K;refine Af (f:=11) (rs:=[2]) (by kernel_rfl) (by simp) ?_;refine Ag.cons rfl (by decide) (fun K d=>?_) Ag.nil;go_simp;go_wp2_with (go_at_call 44;refine(A1 B p (kk+1) 3 _ an (by omega) (by omega) (by omega)).mono ?_;rintro e bt ⟨am,ez,rfl,ay,bh⟩)
     have N:=Ah P bh;refine d.out _ _ (z.out _ N) ?_;clear d K;have F:=(bh.block _ (by rw[aR];exact aT _) (by intro e;have:=aN e;omega)).trans F;refine Af (f:=10) (rs:=[3]) (by kernel_rfl) (by simp) ?_;refine Ag.cons rfl (by decide) (fun K d=>?_) Ag.nil;go_simp;go_wp2_with (go_at_call 80;refine(C8 ⟨#[32]⟩ am _ (by decide) (by omega)).mono ?_;rintro e O ⟨s,ai,rfl,rfl⟩)
     have c6:s.size<=2:=by rw[ai];show 1*am<=2;omega
     clear ai;refine d.out _ _ (z.out _ N) ?_;clear d K;have c7:¬ 9223372036854775807<t.size+s.size:=by omega
     have c8:¬ 9223372036854775807<t.size+s.size+rk.size:=by omega
     have e0:¬ 9223372036854775807<t.size+s.size+rk.size+2:=by omega
     have e1:¬ 9223372036854775807<t.size+s.size+rk.size+2+J.size:=by omega
     refine A9 [false,false,false,false,true,false,false,true,true,false,false,true,false,false,false,false,false,false,false,false] 6 rfl (by kernel_rfl) (z.out _ N) ?_;simp only[AZ,Bc,AX];iterate 4 (refine A2 (fun K d=>?_);go_simp;refine d _ ?_;clear d K)
     refine A8 ?_;refine Af (f:=5) (rs:=[14]) (by kernel_rfl) (by simp) ?_;refine Ag.cons rfl (by decide) (fun K d=>?_) Ag.nil;go_simp;go_wp2_with (go_at_call 44;refine(A1 B p (kk+1+1) 3 _ ay (by omega) (by omega) (by omega)).mono ?_;rintro e U ⟨A,G,rfl,da,aj⟩)
     have ao:=Ah N aj;refine d.out _ _ (z.out _ ao) ?_;clear d K;have F:=(aj.block _ (aU.1 F).1 (by intro e;have:=aN e;omega)).trans F;have F:U.heap[ah.heap.size]?=_:=F;generalize ah.heap.size=bi at *
    all_goals
     obtain⟨ap,gi,d7⟩:=Afw (M:=12) F G (by decide) (by decide) (by decide);have hm:¬ 9223372036854775807<t.size+s.size+rk.size+2+J.size+ap.size:=by omega
     have hn:¬ 9223372036854775807<t.size+s.size+rk.size+2+J.size+ap.size+1:=by omega
     have d8:(0:Int)<=(A:Int):=by omega
     have e2:(A:Int)<3:=by omega
     have e3:U.cell? ⟨bi,A,aG⟩=aF (aA ap):=d7;have ho:=fun p:{ W:World // W.cell? ⟨bi,A,aG⟩=aF (aA ap)/\(W.cell? ⟨Y,0,aG⟩=aF (aA rk)/\W.cell? ⟨Y,1,aG⟩=aF (aA J)) }=>p.2.1
     letI:Inhabited { W:World // W.cell? ⟨bi,A,aG⟩=aF (aA ap)/\(W.cell? ⟨Y,0,aG⟩=aF (aA rk)/\W.cell? ⟨Y,1,aG⟩=aF (aA J)) }:=⟨⟨U,e3,z.out _ ao⟩⟩;refine IM (S':=fun W=>W.cell? ⟨bi,A,aG⟩=aF (aA ap)/\(W.cell? ⟨Y,0,aG⟩=aF (aA rk)/\W.cell? ⟨Y,1,aG⟩=aF (aA J))) (fun u h=>h.2) ?_;refine A9 [false,false,false,false,false,false,false,false,false,false,false,false,false,false,false,true,true,true,true,false] 1 rfl (by kernel_rfl) ⟨e3,z.out _ ao⟩ ?_;simp only[AZ,Bc,AX];iterate 4 (refine A2 (fun K d=>?_);go_simp;refine d _ ?_;clear d K)
     refine A8 ?_;refine Bi (by kernel_rfl) rfl (by kernel_rfl) ?_;intro K d;go_simp;refine d.out _ _ (aP ?_);clear d K;go_wp2_with fail
     go_meet;refine⟨_,rfl,?_,da,ao⟩;simp only[aJ];have db:(⟨#[32,32]⟩:ByteArray).size=2:=rfl;have d5:(⟨#[10]⟩:ByteArray).size=1:=rfl;omega
   case rest =>
    obtain⟨t9,rfl,hp,e4,d9⟩:=hcut;have bq:=al.out.1.plt;have e5:=al.out.1.grown d9 e4;have e6:=al.out.2.1.grown d9 bq;have gj:=Ab al.out.2.2;have e7:=Ab (show Aej B p (kk+3+a6*9) (t9.size+a6*2800) w1 X Y (aB cz m c9) (D++T) rk J (aA t9) wc from⟨t9,kk+1+1+1,aB b6 a6 b7,r.ls,rfl,by rw[dz.out];exact f4,by rw[dz.out];exact aE _,by rw[dz.out];omega,er.out,e5,e6⟩);clear al e5 e6 d9 e4 er f3;obtain⟨ea,gl⟩:∃ea,ea=wr:=⟨_,rfl⟩;subst gl;go_wp2;go_loopw [5] (fun o wr=>Aej B p (kk+3+a6*9) (t9.size+a6*2800) w1 X Y (aB cz m c9) (D++T) rk J o wr) (fun _ W=>FZ Y W)
    case atStart=>exact e7.out
    case round =>
     clear e7;obtain⟨t3,bj,bv,ls,rfl,hq,hr,hs,eb,I,cm⟩:=hrel;obtain⟨ht,H,rfl⟩:=cm.free.1.1.ad;have db:=Aa cm.box 2;simp only[aD,aC,aI]at db;have gm:=Ab (JN db);have hu:t3.size<=1990000:=by omega
     by_cases hv:ls.length=0
     ·have gn:¬((0:Int)<(ls.length:Int)):=by omega
      have c0:=Aa I.box 0;simp only[aD,aC]at c0;have e8:=I9 c0;have ds:=Ab (show Aei B p k w1 X (aA (t3++⟨#[101,110,100,10]⟩)) wr from⟨_,bj,_,D++T,rfl,by have:=d4.out;omega,by rw[aJ,d4.out];show t3.size+4+_<=_;omega,by rw[d4.out];omega,gf.out,I⟩);have go:=Ab (show Fi X wr<Fi X ea from by rw[e8,fy.out];omega);have hw:¬ 9223372036854775807<t3.size+4:=by omega
      clear I cm eb e8;generalize ls.length=nl at *;go_wp2;go_roundw;case rel=>exact ds.out
      case measure=>exact go.out
     ·have gn:((0:Int)<(ls.length:Int)):=by omega
      have ag:=A1 B p bj ls.length wr I.rd (by omega) (by omega) (by omega);have b3:=Ab I;have e9:=Ab cm;have fa:=Ab eb;clear I cm eb;generalize fb:ls.length=nl at *;have dc:=Ab fb;clear fb;go_wp2_with (go_at_call 44;refine ag.mono ?_)
      rintro e w3 ⟨y,b4,rfl,b5,bn⟩;have Z:=Ab (b3.out.grown bn b5);have cn:=Ab (e9.out.grown bn bq);obtain⟨az,x,a0,dd,fc⟩:=AC ls y (by have:=dc.out;omega);have de:x∈ls:=by rw[dd];simp
      have be:=cn.out.free.1.1;rw[dd]at be;obtain⟨Q,o1,gp,cx,cy⟩:=be.ai;subst gp;obtain⟨xa,xc,fd⟩:=Am.ad (cn.out.free.1.2 x de);have df:=fa.out x de;have gq:=Ab df.2.2;have hx:x.key.size<=20:=df.1;have hy:x.ws.length<=3:=df.2.1;have a1:=Ab dd;have bk:=Ab fc;have gr:=Ab de;have gs:=Ab fd;have co:=Ab (show ∀W,w3.grownBy W (aF p)->(W.cell? ⟨Y,2,aG⟩=aF (aB (aF ⟨Q,o1,aG⟩) nl H)/\W.cell? ⟨Q,o1+y*2,aG⟩=aF (aA x.key)/\W.cell? ⟨Q,o1+y*2+1,aG⟩=aF (aB xa x.ws.length xc))/\Am W (aB xa x.ws.length xc) x.ws.length 1 (strs x.ws) from fun W ar=>by
       have b4:=cn.out.grown ar bq;have a3:=Aa b4.box 2;simp only[aD,aC,aI]at a3;have fe:=b4.free.1.1;rw[a1.out]at fe;obtain⟨b',hz,gt,a4,aq⟩:=fe.ai;cases gt
       have C:=b4.free.1.2 x gr.out;unfold BL at C;rw[gs.out]at aq C;rw[bk.out]at a4 aq;exact⟨⟨a3,a4,aq⟩,C⟩)
      clear ag b3 e9 be cx cy dd fc de fd df b5 bn db;go_upto_region 10 with fail
      have h0:(0:Int)<=(y:Int):=by omega
      have h2:(y:Int)<(nl:Int):=by omega
      generalize x.key=xk at *;generalize ff:x.ws.length=nw at *;have dg:=Ab ff;clear ff;have z:=Ab (show ∀W,w3.grownBy W (aF p)->W.cell? ⟨Y,2,aG⟩=aF (aB (aF ⟨Q,o1,aG⟩) nl H)/\W.cell? ⟨Q,o1+y*2,aG⟩=aF (aA xk) from fun W ar=>⟨(co.out W ar).1.1,(co.out W ar).1.2.1⟩);have a7:w3.grownBy w3.drew (aF p):=Ar (aK _ _).drew _;have br:Rd B w3.drew p (bj+1):=Z.out.rd.V (aK _ _).drew;have ca:=fun p:{ W:World // W.cell? ⟨Y,2,aG⟩=aF (aB (aF ⟨Q,o1,aG⟩) nl H)/\W.cell? ⟨Q,o1+y*2,aG⟩=aF (aA xk) }=>p.2.1
      have s:=fun p:{ W:World // W.cell? ⟨Y,2,aG⟩=aF (aB (aF ⟨Q,o1,aG⟩) nl H)/\W.cell? ⟨Q,o1+y*2,aG⟩=aF (aA xk) }=>p.2.2
      letI:Inhabited { W:World // W.cell? ⟨Y,2,aG⟩=aF (aB (aF ⟨Q,o1,aG⟩) nl H)/\W.cell? ⟨Q,o1+y*2,aG⟩=aF (aA xk) }:=⟨⟨w3.drew,z.out _ a7⟩⟩;refine AK (S:=fun W=>W.cell? ⟨Y,2,aG⟩=aF (aB (aF ⟨Q,o1,aG⟩) nl H)/\W.cell? ⟨Q,o1+y*2,aG⟩=aF (aA xk)) 12 13 (by kernel_rfl) rfl ?_;refine A9 [true,true,false,false,false,true,true,true,true,true,true,false,false] 5 rfl (by kernel_rfl) (z.out _ a7) ?_;simp only[AZ,Bc,AX];iterate 8 (refine A2 (fun K d=>?_);go_simp;refine d _ ?_;clear d K)
      refine A8 ?_;clear ca s;refine Af (f:=4) (rs:=[2]) (by kernel_rfl) (by simp) ?_;refine Ag.cons rfl (by decide) (fun K d=>?_) Ag.nil;go_simp;go_wp2_with (go_at_call 44;refine(A1 B p (bj+1) 5 _ br (by omega) (by omega) (by omega)).mono ?_;rintro e O ⟨am,ez,rfl,an,bh⟩)
      have P:=Ah a7 bh;refine d.out _ _ (z.out _ P) ?_;clear d K;refine Af (f:=3) (rs:=[3]) (by kernel_rfl) (by simp) ?_;refine Ag.cons rfl (by decide) (fun K d=>?_) Ag.nil;go_simp;go_wp2_with (go_at_call 80;refine(C8 ⟨#[32]⟩ am _ (by decide) (by omega)).mono ?_;rintro e O ⟨s,ai,rfl,rfl⟩)
      have c6:s.size<=4:=by rw[ai];show 1*am<=4;omega
      clear ai;refine d.out _ _ (z.out _ P) ?_;clear d K;have c7:¬ 9223372036854775807<t3.size+s.size:=by omega
      have c8:¬ 9223372036854775807<t3.size+s.size+xk.size:=by omega
      refine A9 [false,false,false,false,true,false,false,false,false,false,false,true,false] 1 rfl (by kernel_rfl) (z.out _ P) ?_;simp only[AZ,Bc,AX];iterate 2 (refine A2 (fun K d=>?_);go_simp;refine d _ ?_;clear d K)
      refine A8 ?_;refine Bi (by kernel_rfl) rfl (by kernel_rfl) ?_;intro K d;go_simp;refine d.out _ _ (aP ?_);clear d K;have h3:(t3++s++xk).size<=t3.size+24:=by simp only[aJ];omega
      generalize t3++s++xk=t4 at *;clear c7 c8 c6 br bh;have fg:=Ab (show ∃(t5:ByteArray) (j R:Nat),Value.string t4=aA t5/\Value.int .i64 0=.int .i64 (j:Int)/\j<=nw/\t5.size<=t4.size+j*906/\R<=bj+2+2*j/\Rd B O p R/\w3.grownBy O (aF p) from⟨t4,0,bj+1+1,rfl,rfl,by omega,by omega,by omega,an,P⟩);clear an P;obtain⟨ec,gu⟩:∃ec,ec=wr:=⟨_,rfl⟩;subst gu;go_wp2;go_loopw [5,10] (fun o i wr=>∃(t5:ByteArray) (j R:Nat),o=aA t5/\i=.int .i64 (j:Int)/\j<=nw/\t5.size<=t4.size+j*906/\R<=bj+2+2*j/\Rd B wr p R/\w3.grownBy wr (aF p)) (fun _ i _=>nw-(intOf i).toNat)
      case atStart=>exact fg.out
      case round =>
       clear fg;obtain⟨t5,j,R,rfl,rfl,h4,h5,h6,dh,di⟩:=hrel;have h7:t5.size<=2000000:=by omega
       obtain⟨⟨a3,a4,aq⟩,bu⟩:=co.out wr di;by_cases h8:j<nw
       ·have gv:((j:Int)<(nw:Int)):=by omega
        have h9:(0:Int)<=(j:Int):=by omega
        obtain⟨ia,ib,ed,fw⟩:=bu.word j (by have:=dg.out;omega);subst ed;have ic:(⟨(x.ws[j]'(by have:=dg.out;omega)).toArray⟩:ByteArray).size<=300:=by show (bI _)<=300;rw[aX];exact gq.out _ (List.getElem_mem _)
        generalize fh:(⟨(x.ws[j]'(by have:=dg.out;omega)).toArray⟩:ByteArray)=bl at *;have gw:=Ab fh;clear fh;have fi:=Jt bl wr (by omega);have ie:(⟨(CZ bl.data.toList).toArray⟩:ByteArray).size<=902:=by
         have h1:=V8 bl.data.toList;have af:bl.data.toList.length=bl.size:=by simp
         show (bI _)<=902;rw[aX];omega
        generalize (⟨(CZ bl.data.toList).toArray⟩:ByteArray)=gx at *;have cp:=aO _ _ fw;go_wp2_with (go_at_call 152;refine fi.mono ?_)
        first|rintro e fj rfl dj|rintro e fj ⟨rfl,dj⟩
        have gy:=Ah di (Ar dj (aF p));have gz:=dh.V dj;have ag:=A1 B p R 3 fj gz (by omega) (by omega) (by omega);clear fi dj a3 a4 aq bu fw cp;go_wp2_with (go_at_call 44;refine ag.mono ?_)
        rintro e dk ⟨A,G,rfl,bw,bx⟩;have dl:=Ah gy bx;obtain⟨⟨a3,a4,aq⟩,bu⟩:=co.out dk dl;obtain⟨ig,ih,ed,fw⟩:=bu.word j (by have:=dg.out;omega);cases ed
        rw[gw.out]at fw;have cp:=aO _ _ fw;clear ag bu bx;by_cases d8:A=0
        ·subst d8;cases ii:(gx.toList==bl.toList)
         ·have a8:=A1 B p (R+1) 2 dk bw (by omega) (by omega) (by omega);go_wp2_with (go_at_call 44;refine a8.mono ?_)
          rintro e a9 ⟨aa,fk,rfl,cq,ba⟩;have cr:=Ah dl ba;have ad:=C8 ⟨#[32]⟩ (1+aa) a9 (by decide) (by omega);rw[show ((1+aa:Nat):Int)=1+(aa:Int) from by omega]at ad;clear a8 a3 a4 aq fw cp ba;go_wp2_with (go_at_call 80;refine ad.mono ?_)
          rintro e a9 ⟨u1,bb,rfl,rfl⟩;have fl:u1.size<=2:=by rw[bb];show 1*(1+aa)<=2;omega
          clear ad bb;go_wp2;go_roundw;case rel =>
           refine⟨_,j+1,R+1+1,rfl,by go_num,by omega,?_,by omega,cq,cr⟩;simp only[aJ];omega
          case measure=>simp[intOf];omega
         ·have a8:=A1 B p (R+1) 2 dk bw (by omega) (by omega) (by omega);go_wp2_with (go_at_call 44;refine a8.mono ?_)
          rintro e a9 ⟨aa,fk,rfl,cq,ba⟩;have cr:=Ah dl ba;have ad:=C8 ⟨#[32]⟩ (1+aa) a9 (by decide) (by omega);rw[show ((1+aa:Nat):Int)=1+(aa:Int) from by omega]at ad;clear a8 a3 a4 aq fw cp ba;go_wp2_with (go_at_call 80;refine ad.mono ?_)
          rintro e a9 ⟨u1,bb,rfl,rfl⟩;have fl:u1.size<=2:=by rw[bb];show 1*(1+aa)<=2;omega
          clear ad bb;go_wp2;go_roundw;case rel =>
           refine⟨_,j+1,R+1+1,rfl,by go_num,by omega,?_,by omega,cq,cr⟩;simp only[aJ];have ij:(⟨#[34]⟩:ByteArray).size=1:=rfl;omega
          case measure=>simp[intOf];omega
        ·have e2:((A:Int)==0)=false:=by rw[beq_eq_false_iff_ne];omega
         have a8:=A1 B p (R+1) 2 dk bw (by omega) (by omega) (by omega);go_wp2_with (go_at_call 44;refine a8.mono ?_)
         rintro e a9 ⟨aa,fk,rfl,cq,ba⟩;have cr:=Ah dl ba;have ad:=C8 ⟨#[32]⟩ (1+aa) a9 (by decide) (by omega);rw[show ((1+aa:Nat):Int)=1+(aa:Int) from by omega]at ad;clear a8 a3 a4 aq fw cp ba;go_wp2_with (go_at_call 80;refine ad.mono ?_)
         rintro e a9 ⟨u1,bb,rfl,rfl⟩;have fl:u1.size<=2:=by rw[bb];show 1*(1+aa)<=2;omega
         clear ad bb;go_wp2;go_roundw;case rel =>
          refine⟨_,j+1,R+1+1,rfl,by go_num,by omega,?_,by omega,cq,cr⟩;simp only[aJ];omega
         case measure=>simp[intOf];omega
       ·obtain rfl:j=nw:=by omega
        have gv:¬((j:Int)<(j:Int)):=by omega
        have L:=(aK wr.heap.size wr).alloc (aE _) (aH #[aA ⟨#[10]⟩,aA ⟨#[32,35,10]⟩,aA ⟨#[10,10]⟩] 9);have F:=Ai wr (aH #[aA ⟨#[10]⟩,aA ⟨#[32,35,10]⟩,aA ⟨#[10,10]⟩] 9);have ik:=dh.lt;have ag:=A1 B p R 3 _ (dh.V L) (by omega) (by omega) (by omega);have fm:=Ah di (Ar L (aF p));clear bu L;go_wp2_with (go_at_call 44;refine ag.mono ?_)
        rintro e g ⟨A,G,rfl,bw,bx⟩;have F:=(bx.block _ (aU.1 F).1 (by intro e;have:=aN e;omega)).trans F;have ee:=Ah fm bx;obtain⟨ap,gi,d7⟩:=Afw (M:=3) F G (by decide) (by decide) (by decide);have d8:(0:Int)<=(A:Int):=by omega
        have e2:(A:Int)<3:=by omega
        have fn:=Ab (Z.out.grown ee bw);have bz:=Ab (cn.out.grown ee bq);have il:(t5++ap).size<=t3.size+2800:=by rw[aJ];omega
        clear ag a3 a4 aq F fm bx di dh bw ee co Z cn;go_upto_region 19 with fail
        have au:=Aa bz.out.box 2;simp only[aD,aC,aI]at au;have av:=Ab (show Am g (aB (aF ⟨Q,o1,aG⟩) nl H) nl 2 ((az++x::a0).flatMap LAt.cells) from by have:=bz.out.free.1.1;rw[a1.out]at this;have e:=dc.out;rw[a1.out]at e;rw[e]at this;exact this);have f5:nl<=H:=av.out.cap.1;clear d7;generalize (aF ⟨Q,o1,aG⟩:Option Addr)=E at *;have f6:(y:Int)<=(nl:Int):=by omega
        have f7:(nl:Int)<=(H:Int):=by omega
        have f8:(y:Int)<=(H:Int):=by omega
        have f9:(0:Int)<=(y:Int)+1:=by omega
        have ga:(y:Int)+1<=(nl:Int):=by omega
        have gb:bD.wrap ((y:Int)+1)=(y:Int)+1:=by rw[aV];omega
        have b9:g.drew.cell? ⟨Y,2,aG⟩=aF (aB E nl H):=au;have ca:=fun p:{ W:World // W.cell? ⟨Y,2,aG⟩=aF (aB E nl H) }=>p.2
        letI:Inhabited { W:World // W.cell? ⟨Y,2,aG⟩=aF (aB E nl H) }:=⟨⟨g.drew,b9⟩⟩;refine AK (S:=fun W=>W.cell? ⟨Y,2,aG⟩=aF (aB E nl H)) 13 14 (by kernel_rfl) rfl ?_;refine A9 [false,true,true,true,true,false,true,true,true,true,true,false,false,false] 5 rfl (by kernel_rfl) b9 ?_;simp only[AZ,Bc,AX];iterate 9 (refine A2 (fun K d=>?_);go_simp;refine d _ ?_;clear d K)
        refine A8 ?_;have cb:=Ab (show Am g (aB E y H) y 2 (az.flatMap LAt.cells) from by
         have af:=av.out.take y (by omega);rw[aM,<-bk.out,<-Bs LAt.cells 2 LAt.len az,bC]at af;rw[<-bk.out];exact af)
        have bf:=Ab (show Am g (aB (if H=y+1 then E else E.map (fun a=>a.add ((y+1)*2))) (nl-(y+1)) (H-(y+1))) (nl-(y+1)) 2 (a0.flatMap LAt.cells) from by
         have af:=av.out.drop (y+1) (by omega);rw[show (az++x::a0).flatMap LAt.cells=(az++[x]).flatMap LAt.cells++a0.flatMap LAt.cells by rw[<-aM,aY];rfl,bB (by rw[Bs LAt.cells 2 LAt.len,aL,bk.out];rfl)]at af;exact af)
        have bg:=Ab (show ∀A∈ls,∃a n c,A.v=aB a n c from fun A G=>by obtain⟨a,c,e⟩:=Am.ad (bz.out.free.1.2 A G);exact⟨a,_,c,e⟩);have cc:=Ab (CM (ls:=az) (fun A G=>bg.out A (by rw[a1.out];simp[G])));have cd:=Ab (CM (ls:=a0) (fun A G=>bg.out A (by rw[a1.out];simp[G])));have ce:a0.length=nl-(y+1):=by have e:=dc.out;rw[a1.out]at e;simp only[aL,aS,bk.out]at e;omega
        obtain⟨i0,cf,cg,ch,ci⟩:=info_parts CQ;generalize (if H=y+1 then E else E.map (fun a=>a.add ((y+1)*2)))=gc at bf⊢;have ct:=Ab (show ∀u,Below g.heap.size g u->u.cell? ⟨Y,2,aG⟩=aF (aB E nl H) from fun u d0=>(d0.cell (aO g _ au)).trans au);refine Af (f:=4) (rs:=[0]) (by kernel_rfl) (by simp) ?_;refine Ag.cons rfl (by decide) (fun K d=>?_) Ag.nil;go_simp;have ab:Below g.heap.size g (g.alloc (aH #[] 115)).drew:=((aK g.heap.size g).alloc (aE _) (aH #[] 115)).drew;have cj:(g.alloc (aH #[] 115)).drew.ownsRow g.heap.size 115 2 (aB (aF ⟨g.heap.size,0,aG⟩) 0 0) 0 []:=aW (base:=g.heap.size) (e:=115) (size:=2) g #[] 0 (aE _) (by decide) rfl;refine d.out _ _ (ct.out _ ab) ?_;clear d K;refine Af (f:=3) (rs:=[5]) (by kernel_rfl) (by simp) ?_;refine Ag.cons rfl (by decide) (fun K d=>?_) Ag.nil;refine A0 rfl _ _ 44 rfl g.heap.size 115 i0 _ 2 40 underlying44 cf cg ch ci rfl (by decide) _ 0 _ rfl cj _ y _ rfl (cb.out.V ab) cc.out (by unfold maxLen;omega) (by omega) ab.size ?_;intro d1 c5 u5 aw ck _;simp only[bG,bA]at aw⊢;have ac:=ab.grown ck ab.size (fun q ae=>by cases ae;exact aE _);refine d.out _ _ (ct.out _ ac) ?_;clear d K;refine Af (f:=2) (rs:=[11]) (by kernel_rfl) (by simp) ?_;refine Ag.cons rfl (by decide) (fun K d=>?_) Ag.nil;have cl:∀q,(bF d1 y c5).ownBlock=aF q->g.heap.size<=q:=fun q ae=>(aw.lt q ae).1
        refine A0 rfl _ _ 44 rfl g.heap.size 115 i0 _ 2 40 underlying44 cf cg ch ci rfl (by decide) _ y _ rfl aw _ (nl-(y+1)) _ rfl (bf.out.V ac) cd.out (by unfold maxLen;omega) (by omega) ac.size ?_;intro fo fp fq ef fr _;have dm:=ac.grown fr ac.size cl;refine d.out _ _ (ct.out _ dm) ?_;clear d K aw ck fr cl ac ab cj;refine Af (f:=1) (rs:=[12]) (by kernel_rfl) (by simp) ?_;refine Ag.cons rfl (by decide) (fun K d=>?_) Ag.nil;go_simp;refine d.out _ _ (ct.out _ dm) ?_;clear d K;have z9:=(bz.out.V dm).box;have g0:=Aa z9 2;have im:=Ac z9 2;simp only[aD,aC,aI]at g0;have ax:y+(nl-(y+1))=nl-1:=by omega
        have cu:(az++a0).length=nl-1:=by rw[aL,bk.out,ce];exact ax
        have dn:=Acp (ls':=az++a0) (n:=nl-1) fn.out bz.out gj.out dm (by rw[aM,cu];rw[ax]at ef;exact ef) (fun x C=>by rw[a1.out];rcases aQ.1 C with C|C <;> simp[C]) (by rw[cu,dc.out];omega)
        rw[ax];have g1:=Ab (show Aej B p (kk+3+a6*9) (t9.size+a6*2800) w1 X Y (aB cz m c9) (D++T) rk J (aA (t5++ap)) (fq.setCell ⟨Y,2,aG⟩ (aB fo (nl-1) fp)) from⟨t5++ap,R+1,_,az++a0,rfl,by omega,by rw[cu];omega,by rw[cu];omega,fun x C=>fa.out x (by rw[a1.out];rcases aQ.1 C with C|C <;> simp[C]),dn.1,dn.2⟩)
        have eg:=Aa dn.2.box 2;simp only[aD,aC,aI]at eg;have g2:=Ab (show FZ Y (fq.setCell ⟨Y,2,aG⟩ (aB fo (nl-1) fp))<FZ Y ec from by rw[JN eg,gm.out];omega);clear ef dn cb bf bg cc cd av ct fn bz ax cu a1 bk ce eg;refine Bi (by kernel_rfl) rfl (by kernel_rfl) ?_;intro K d;go_simp;refine d.out _ _ (aP ?_);clear d K;go_wp2;go_roundw;case rel=>exact g1.out
        case measure=>exact g2.out
