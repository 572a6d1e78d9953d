import Derived.Test.YtpdahhnjhggocaaGreatDoorMz24
import Derived.Shelf.Abstract
namespace Go.Proofs.YtpdahhnjhggocaaGreatDoor
open Go.RowKit
set_option maxHeartbeats 16000000
set_option maxRecDepth 100000
variable {v:Value}{ls:List LAt}{w:World}
theorem Le{F:FuncId}{q:Value}(p:LAt→Bool)(h:Ah w v ls)(hl:ls.length≤1048576)(hF:∀ x∈ls,∀ W,Below w.heap.size w W→Calls Tryz.prog F #[.agg #[.string x.key,x.v],q] W fun e w'=>e=.returned (.bool (p x))∧Below W.heap.size W w')(hE:∀ args w,(callFunc F args).run Tryz.prog w=.ok (.enter F args) w):
  Calls Tryz.prog 109 #[v,.func (.func F) #[] #[q]] w fun e w'=>∃ v',e=.returned v'∧w'.ownsRow w.heap.size 115 2 v' (ls.filter p).length ((ls.filter p).flatMap LAt.cells)∧Below w.heap.size w w':=by
 obtain⟨ao,cap,rfl⟩:=h.1.form;generalize hn:ls.length=len at *;have en:=Aa hn;clear hn;obtain⟨i0,hi,hz0,hz1,hz2⟩:=info_parts Ez;go_enter Tryz.func109,Tryz.ntmps109;go_wp2;go_loopw [5,10] (fun u i wr=>∃(j:Nat) (done:List LAt),j≤len∧i=.int .i64 (j:Int)∧done=(ls.take j).filter p∧wr.ownsRow w.heap.size 115 2 u done.length (done.flatMap LAt.cells)∧Below w.heap.size w wr) (fun _ i _=>len - (intOf i).toNat)
 case atStart=>exact⟨0,[],by omega,rfl,by simp,World.ownsRow_nil _ _ _ _,Below.refl _ _⟩
 case round =>
  obtain⟨j,done,hj,rfl,hdn,hm,bw⟩:=hrel;obtain⟨qa,qc,rfl,_⟩:=Ai hm;have hdl:done.length≤j:=by rw[hdn];exact Nat.le_trans (List.length_filter_le _ _) (by simp;omega)
  by_cases hlt:j<len
  ·obtain⟨D,x,T,e0,hD⟩:=Br ls j (by have:=en.out;omega);have h5:=h.below bw;have hxm:x∈ls:=by rw[e0];simp
   have h6:=h5;rw[e0]at h6;obtain⟨g,off,rfl,c1,c2⟩:=h6.1.line;obtain⟨ax,cx,e1⟩:=An.form (h5.2 x hxm);have hst:=Aa (show (ls.take (j+1)).filter p=done++[x].filter p from by rw[hdn,e0,← hD,Ch,Cq,List.filter_append]);have bx:=(Below.refl wr.heap.size wr).alloc (Nat.le_refl _) (.cells #[.string x.key,.slice ax x.ws.length cx] 115);have k0:=Bg (w:=wr) (cs:=#[.string x.key,.slice ax x.ws.length cx]) (T:=115) 0;have k1:=Bg (w:=wr) (cs:=#[.string x.key,.slice ax x.ws.length cx]) (T:=115) 1;simp only[List.getElem?_toArray,List.getElem?_cons_zero,List.getElem?_cons_succ]at k0 k1;have HC:=hF x hxm _ (bw.trans (bx.mono bw.size));rw[e1]at HC c2;rw[hD]at c1 c2;have hB0:(0:Int)≤(j:Int):=by omega
   have hB1:(j:Int)<(len:Int):=by omega
   have hcells:=Aa (show (LAt.cells x)=[.string x.key,.slice ax x.ws.length cx] from by unfold LAt.cells;rw[e1]);have hm':=Aa hm;have hszw:=bw.size;have hbase:=Aa (show ∀ k,(Value.slice qa done.length qc).ownBlock=some k→w.heap.size≤k from fun k hk=>(hm.lt k hk).1);cases hp:p x
   ·have hst':=Aa (show (ls.take (j+1)).filter p=done from by rw[hst.out];simp[hp]);rw[hp]at HC;clear h h5 h6 hF hdn hm e0 e1 hD hxm hst hcells hp;generalize x.key=xk at *;generalize x.ws.length=nx at *;go_wp2_with (go_at_fn F;refine HC.mono ?_;rintro e w2 ⟨rfl,b2⟩)
    have b3:=bx.trans (b2.mono bx.size);have hm3:=Cd hm'.out b3;clear HC;go_roundw;case rel=>exact⟨j+1,done,by omega,by go_num,hst'.out.symm,hm3,bw.trans (b3.mono hszw)⟩
    case measure=>simp[intOf];omega
   ·have hst':=Aa (show (ls.take (j+1)).filter p=done++[x] from by rw[hst.out];simp[hp]);rw[hp]at HC;have hone:=Fr (ls:=[x]) (fun y hy=>by rw[List.mem_singleton.1 hy];exact⟨_,_,_,e1⟩);rw[List.flatMap_singleton,hcells.out]at hone;clear h h5 h6 hF hdn hm e0 e1 hD hxm hst hp;go_wp2_with (go_at_fn F;refine HC.mono ?_)
    first | rintro e w2 rfl b2 | rintro e w2 ⟨rfl,b2⟩
    have b3:=bx.trans (b2.mono (by simp));have m0:=(b2.cell (p:=⟨wr.heap.size,0,none⟩) (by simp)).trans k0;have m1:=(b2.cell (p:=⟨wr.heap.size,1,none⟩) (by simp)).trans k1;have hm3:=(Cd hm'.out b3).alloc (.cells #[.string x.key,.slice ax x.ws.length cx] 115);have b4:=b3.alloc b3.size (.cells #[.string x.key,.slice ax x.ws.length cx] 115);have hrow:=Cj w2 #[.string x.key,.slice ax x.ws.length cx] 115 2 rfl;have hz3:=b3.size;clear HC k0 k1;go_wp2_with (at_builtin;refine Be (by rfl) _ _ 44 (by rfl) w.heap.size 115 i0 _ 2 40 Tryz.underlying44 hi hz0 hz1 hz2 rfl (by decide) _ done.length _ (by rfl) hm3 _ 1 _ (by rfl) hrow hone ?c3 ?c4 (Nat.le_trans hszw (Nat.le_trans hz3 (by simp))) ?_)
    case c3=>unfold maxLen;omega
    case c4=>omega
    intro ao' cap' w5 hown5 hg5 _;have hB5:=(bw.trans (b4.mono hszw)).grown hg5 (by simp;omega) hbase.out;have HO:=Aa (show w5.ownsRow w.heap.size 115 2 (.slice ao' (done.length+1) cap') (done++[x]).length ((done++[x]).flatMap LAt.cells) from by
     rw[List.flatMap_append,List.flatMap_singleton,hcells.out,List.length_append];exact hown5)
    clear hm3 hrow hone hown5 hg5 m0 m1 hbase hm';go_wp2;go_roundw;case rel=>exact⟨j+1,done++[x],by omega,by go_num,hst'.out.symm,HO.out,hB5⟩
    case measure=>simp[intOf];omega
  ·obtain rfl:j=len:=by omega
   have hls:ls.take j=ls:=by rw[← en.out,List.take_length]
   have HO:=Aa (show wr.ownsRow w.heap.size 115 2 (.slice qa done.length qc) (ls.filter p).length ((ls.filter p).flatMap LAt.cells) from by rw[← hls,← hdn];exact hm);clear h hF hm hdn;go_wp2;go_ret;exact⟨_,rfl,HO.out,bw⟩
theorem Abw(x:LAt)(rk:ByteArray)(g:Nat)(hx:∃ a n c,x.v=.slice a n c)(hg:w.cell? ⟨g,0,none⟩=some (.string rk)):Calls Tryz.prog 215 #[.agg #[.string x.key,x.v],.pointer (some ⟨g,0,none⟩)] w fun e w'=>e=.returned (.bool (x.key.toList == rk.toList))∧Below w.heap.size w w':=by
 obtain⟨a,n,c,e1⟩:=hx;rw[e1];have G:=(Below.refl w.heap.size w).alloc (Nat.le_refl _) (.cells #[.string x.key,.slice a n c] 115);have hg':=(G.cell (World.block_lt_of_cell? w _ hg)).trans hg;have k0:=Bg (w:=w) (cs:=#[.string x.key,.slice a n c]) (T:=115) 0;simp only[List.getElem?_toArray,List.getElem?_cons_zero]at k0;generalize x.key=xk at *;go_enter Tryz.func215,Tryz.ntmps215;go_wp2;go_ret;exact⟨rfl,G⟩
def Adt(fl:List LAt)(w:World)(e:Ending)(w':World):Prop:=∃ v',e=.returned v'∧w'.ownsRow w.heap.size 115 2 v' fl.length (fl.flatMap LAt.cells)∧Below w.heap.size w w'
def withKey(ls:List LAt)(k:ByteArray):List LAt:=ls.filter fun x=>x.key.toList == k.toList
theorem Lf(ls:List LAt)(k:ByteArray):(withKey ls k).map LAt.plain=Jb (ls.map LAt.plain) k:=by
 unfold Jb withKey;rw[List.filter_map];rfl
theorem C3(rk:ByteArray)(h:Ah w v ls)(hl:ls.length≤1048576):Calls Tryz.prog 158 #[v,.string rk] w fun e w'=>Adt (withKey ls rk) w e w':=by
 have B0:=(Below.refl w.heap.size w).alloc (Nat.le_refl _) (.cells #[.string rk] 9);have d0:=Bg (w:=w) (cs:=#[.string rk]) (T:=9) 0;simp only[List.getElem?_toArray,List.getElem?_cons_zero]at d0;have HK:=Le (F:=215) (q:=.pointer (some ⟨w.heap.size,0,none⟩)) (fun x=>x.key.toList == rk.toList) (h.below B0) hl (fun x hx W hW=>Abw x rk w.heap.size (by obtain⟨a,c,e⟩:=An.form (h.2 x hx);exact⟨a,_,c,e⟩) ((hW.cell (World.block_lt_of_cell? _ _ d0)).trans d0)) (enters_of Tryz.func215 (by kernel_rfl) rfl);obtain⟨ao,cap,rfl⟩:=h.1.form;rw[show ls.filter (fun x=>x.key.toList == rk.toList)=withKey ls rk from rfl]at HK;generalize withKey ls rk=fl at *;clear h hl d0;generalize ls.length=n at *;go_enter Tryz.func158,Tryz.ntmps158;go_wp2_with (go_at_call 109;refine HK.mono ?_)
 first | rintro e w2 v2 rfl o2 b2 | rintro e w2 ⟨v2,rfl,o2,b2⟩
 have B2:=B0.trans (b2.mono B0.size);have O2:=Aa (Ec o2 B0.size);obtain⟨a2,c2,rfl,_⟩:=Ai o2;clear HK o2 b2;go_wp2;go_ret;exact⟨_,rfl,O2.out,B2⟩
theorem Ic(kind:ByteArray){L:List Ce}(h:L.map Ce.plain=rulesOf kind):L.length≤12:=by
 have:=(C5 kind).1;rw[← h,List.length_map]at this;exact this
variable {B g:Nat}{W:World}{u1 u2:Value}
theorem N3{u3:Value}(hb:Below B w W)(c:w.cell? ⟨g,0,none⟩=some u1∧w.cell? ⟨g,1,none⟩=some u2∧w.cell? ⟨g,2,none⟩=some u3)(hg:g<B):W.cell? ⟨g,0,none⟩=some u1∧W.cell? ⟨g,1,none⟩=some u2∧W.cell? ⟨g,2,none⟩=some u3 :=
 ⟨(hb.cell (p:=⟨g,0,none⟩) hg).trans c.1,(hb.cell (p:=⟨g,1,none⟩) hg).trans c.2.1,(hb.cell (p:=⟨g,2,none⟩) hg).trans c.2.2⟩
theorem Fx(B:Nat)(w:World):As B w (.slice none 0 0) []:=A8.own1 (World.ownsRow_nil _ _ _ _)
theorem Abx:(Tryz.prog.info? 25).map (fun i=>(i.zero,i.size,i.bytes))=some (some (.agg #[.slice none 0 0]),1,24):=by kernel_rfl
theorem A7:∃ a,Tryz.prog.info? 25=some a∧a.size=1:=by
 obtain⟨i,hi,_,hs,_⟩:=info_parts Abx;exact⟨i,hi,hs⟩
variable {w':World}{bs:List BAt}
theorem N4{x:BAt}(h:Cb w x)(hs:Ae x.ls):Calls Tryz.prog 105 #[.agg #[.string x.kind,.string x.name,x.v]] w fun e w'=>∃ v ls',e=.returned (.agg #[.string x.kind,.string x.name,v])∧ls'.map LAt.plain=x.ls.map LAt.plain∧A3 w.heap.size w' v ls'∧Below w.heap.size w w':=by
 obtain⟨ax,cx,e1⟩:=h.1.form;unfold Cb at h;rw[e1]at h ⊢;have b0:Below w.heap.size w ((w.alloc (.cells #[.string x.kind,.string x.name,.slice ax x.ls.length cx] 46)).alloc (.cells #[.string ⟨#[]⟩,.string ⟨#[]⟩,.slice none 0 0] 46)):=((Below.refl _ _).alloc (Nat.le_refl _) _).alloc (by simp) _;have hsz:((w.alloc (.cells #[.string x.kind,.string x.name,.slice ax x.ls.length cx] 46)).alloc (.cells #[.string ⟨#[]⟩,.string ⟨#[]⟩,.slice none 0 0] 46)).heap.size=w.heap.size+2:=by simp
 have hz0:((w.alloc (.cells #[.string x.kind,.string x.name,.slice ax x.ls.length cx] 46)).alloc (.cells #[.string ⟨#[]⟩,.string ⟨#[]⟩,.slice none 0 0] 46)).heap[w.heap.size]?=some (.cells #[.string x.kind,.string x.name,.slice ax x.ls.length cx] 46 (0,0)):=by rw[Cy _ _ _ (by simp),Al]
 have hz1:((w.alloc (.cells #[.string x.kind,.string x.name,.slice ax x.ls.length cx] 46)).alloc (.cells #[.string ⟨#[]⟩,.string ⟨#[]⟩,.slice none 0 0] 46)).heap[w.heap.size+1]?=some (.cells #[.string ⟨#[]⟩,.string ⟨#[]⟩,.slice none 0 0] 46 (0,0)):=by
  have:=Al (w.alloc (.cells #[.string x.kind,.string x.name,.slice ax x.ls.length cx] 46)) (.cells #[.string ⟨#[]⟩,.string ⟨#[]⟩,.slice none 0 0] 46)
  rwa [World.size_alloc]at this
 have HW:=Hh (h.below b0) hs;have q2:=Ab hz0 2;simp only[List.getElem?_toArray,List.getElem?_cons_zero,List.getElem?_cons_succ]at q2;generalize x.ls.map LAt.plain=PL at *;clear h e1 hs;generalize x.ls.length=nx at *;generalize x.kind=xk at *;generalize x.name=xn at *;go_enter Tryz.func105,Tryz.ntmps105;go_wp2_with (go_at_call 97;refine HW.mono ?_)
 first | rintro e w2 v rfl ls' hpl o2 b2 | rintro e w2 v ls' rfl hpl o2 b2 | rintro e w2 ⟨v,ls',rfl,hpl,o2,b2⟩
 first | rw[hsz]at o2 b2 | skip
 have z0:=(b2.block w.heap.size (by omega)).trans hz0;have z1:=(b2.block (w.heap.size+1) (by omega)).trans hz1;have hw2:w.heap.size+2≤w2.heap.size:=by have:=b2.size;rw[hsz]at this;exact this
 have b02:=b0.trans (b2.mono (by omega));have c0:=Ab z0 0;have c1:=Ab z0 1;have c2:=Ab z0 2;have f2:=Ag z0 2;simp only[List.getElem?_toArray,List.getElem?_cons_zero,List.getElem?_cons_succ]at c0 c1 c2;obtain⟨av,cv,rfl,_⟩:=Ai o2.row;have HPL:=Aa hpl;have hO2:=Aa o2;clear hpl o2;generalize ls'.length=nv at *;have z1':(w2.setCell ⟨w.heap.size,2,none⟩ (.slice av nv cv)).heap[w.heap.size+1]?=some (.cells #[.string ⟨#[]⟩,.string ⟨#[]⟩,.slice none 0 0] 46 (0,0)):=by rw[Below.heap_setCell _ _ _ _ (by simp)];exact z1
 clear HW hz0 hz1 hsz q2;go_wp2_with (with_reducible show wpList _ _ _ (Oper.mk _ (Op.store _ (Operand.tmp 2) _) _ _ _ _::_) _ _;refine wpList_store_row rfl 46 _ _ rfl (w.heap.size+1) #[.string xk,.string xn,.slice av nv cv] ?_ ?_ 46 _ z1' ?_ ?_ ?_ ?_)
 all_goals (first | rfl | kernel_rfl | skip)
 have z5:((w2.setCell ⟨w.heap.size,2,none⟩ (.slice av nv cv)).setRow (w.heap.size+1) #[.string xk,.string xn,.slice av nv cv]).heap[w.heap.size+1]?=some (.cells #[.string xk,.string xn,.slice av nv cv] 46 (0,0)):=setRow_heap _ _ _ _ _ _ z1';have o5:=((hO2.out.setCell ⟨w.heap.size,2,none⟩ (by simp) (.slice av nv cv)).setRow (w.heap.size+1) (by omega) #[.string xk,.string xn,.slice av nv cv]).mono (show w.heap.size≤w.heap.size+2 by omega)
 have b5:Below w.heap.size w ((w2.setCell ⟨w.heap.size,2,none⟩ (.slice av nv cv)).setRow (w.heap.size+1) #[.string xk,.string xn,.slice av nv cv]) :=
  ⟨b02.os,b02.tape,b02.output,by rw[setRow_size];simp;omega,fun k hk=>by rw[setRow_other _ _ _ _ (by omega),Below.heap_setCell _ _ _ _ (by simp;omega)];exact b02.block k hk⟩
 have y0:=Ab z5 0;have y1:=Ab z5 1;have y2:=Ab z5 2;simp only[List.getElem?_toArray,List.getElem?_cons_zero,List.getElem?_cons_succ]at y0 y1 y2;generalize (w2.setCell ⟨w.heap.size,2,none⟩ (.slice av nv cv)).setRow (w.heap.size+1) #[.string xk,.string xn,.slice av nv cv]=W at *;first | exact bodyPost_ret (v:=.agg #[.string xk,.string xn,.slice av nv cv]) (by simp[results,Tryz.results105,go_sem,y0,y1,y2]) rfl ⟨_,ls',rfl,HPL.out,o5,b5⟩ | exact bodyPost_ret (v:=.agg #[.string xk,.string xn,.slice av nv cv]) (by simp[results,Tryz.results105,go_sem,y0,y1,y2]) rfl ⟨_,rfl,ls',HPL.out,o5,b5⟩
theorem Cf(h:Below B w w')(p:Addr)(hp:B≤p.block)(u:Value):Below B w (w'.setCell p u):=h.setCell (p:=p) hp u
theorem Af9{u:Value}(hc:w.cell? ⟨g,0,none⟩=some v)(hf:w.frozen? ⟨g,0,none⟩=false):(w.setCell ⟨g,0,none⟩ u).cell? ⟨g,0,none⟩=some u∧(w.setCell ⟨g,0,none⟩ u).frozen? ⟨g,0,none⟩=false :=
 ⟨World.cell?_setCell_same' _ _ _ (by rw[hc];rfl),by rw[World.frozen?_setCell];exact hf⟩
theorem Adu{p:Addr}(h:w.cell? p=some v∧w.frozen? p=false)(hb:Below B w w')(hp:p.block<B):w'.cell? p=some v∧w'.frozen? p=false:=⟨(hb.cell hp).trans h.1,(hb.frozen hp).trans h.2⟩
theorem Gq(h:Aw w v bs)(hs:A2 bs):Calls Tryz.prog 55 #[.agg #[v]] w fun e w'=>∃ v' bs',e=.returned (.agg #[v'])∧bs'.map BAt.plain=bs.map BAt.plain∧As w.heap.size w' v' bs'∧Below w.heap.size w w':=by
 obtain⟨ao,cap,rfl⟩:=h.1.form;have hl:=hs.1;obtain⟨i0,hi,hz0,hz1,hz2⟩:=info_parts Cn;have b0:Below w.heap.size w (((w.alloc (.cells #[.slice ao bs.length cap] 25)).alloc (.cells #[.slice none 0 0] 25)).alloc (.cells #[.slice none 0 0] 25)):=(((Below.refl _ _).alloc (Nat.le_refl _) _).alloc (by simp) _).alloc (by simp;omega) _;obtain⟨hsz,hy0,hy1,hy2⟩:=I4 (w:=w) (o1:=.cells #[.slice ao bs.length cap] 25) (o2:=.cells #[.slice none 0 0] 25) (o3:=.cells #[.slice none 0 0] 25);have k0:=Ab hy0 0;have k2:=Ab hy2 0;have f2:=Ag hy2 0;simp only[List.getElem?_toArray,List.getElem?_cons_zero]at k0 k2;generalize hn:bs.length=len at *;have en:=Aa hn;clear hn;have hbs:=Aa h;have hsm:=Aa hs;clear h hs hy0 hy2;go_enter Tryz.func55,Tryz.ntmps55;go_wp2;go_loopw [4] (fun i wr=>∃(j:Nat) (done:List BAt) (qa:Option Addr) (qc:Nat),j≤len∧i=.int .i64 (j:Int)∧done.map BAt.plain=(bs.take j).map BAt.plain∧As (w.heap.size+3) wr (.slice qa done.length qc) done∧Below w.heap.size w wr∧w.heap.size+3≤wr.heap.size∧wr.cell? ⟨w.heap.size,0,none⟩=some (.slice ao len cap)∧wr.heap[w.heap.size+1]?=some (.cells #[.slice none 0 0] 25 (0,0))∧wr.cell? ⟨w.heap.size+2,0,none⟩=some (.slice qa done.length qc)∧wr.frozen? ⟨w.heap.size+2,0,none⟩=false) (fun i _=>len - (intOf i).toNat)
 case atStart=>exact⟨0,[],none,0,by omega,rfl,by simp,Fx _ _,b0,by simp,k0,hy1,k2,f2⟩
 case round =>
  obtain⟨j,done,qa,qc,hj,rfl,hdn,hm,bw,hszw,c0,z1,c2,f2'⟩:=hrel;clear k0 k2 hy1 f2 b0 hsz;have hdl:done.length=j:=by have:=congrArg List.length hdn;simp at this;have:=en.out;omega
  subst hdl;by_cases hlt:done.length<len
  ·obtain⟨D,x,T,e0,hD⟩:=Br bs done.length (by have:=en.out;omega);have h5:=hbs.out.below bw;have hxm:x∈bs:=by rw[e0];simp
   have h6:=h5;rw[e0]at h6;obtain⟨g,off,rfl,d1,d2,d3⟩:=h6.1.block;rw[hD]at d1 d2 d3;have hstep:=Aa (show ∀(v':Value) (ls':List LAt),ls'.map LAt.plain=x.ls.map LAt.plain→(done++[⟨x.kind,x.name,v',ls'⟩]:List BAt).map BAt.plain=(bs.take (done.length+1)).map BAt.plain from by
    intro v' ls' hp;rw[List.map_append,hdn,e0,← hD,Ch,Cq,List.map_append,List.map_singleton,List.map_singleton];unfold BAt.plain;rw[hp])
   have hx:=h5.2 x hxm;obtain⟨xa,xc,ex⟩:=hx.1.form;have bd:Below wr.heap.size wr wr.drew:=(Below.refl _ _).drew;have HB:=N4 (Cb.below hx bd) (hsm.out.2 x hxm).2;have hmd:As (w.heap.size+3) wr.drew (.slice qa done.length qc) done:=hm.below bd;have HOUT:=Aa (show ∀ w7,Below wr.heap.size wr.drew w7→∀ cs,(w7.alloc (.cells cs 46)).ownsRow (w.heap.size+3) 46 3 (.slice qa done.length qc) done.length (done.flatMap BAt.cells) from fun w7 b7 cs=>(Cd hmd.row b7).alloc _);have HMD:=Aa hmd;have i1:(0:Int)≤(done.length:Int):=by omega
   have i2:(done.length:Int)<(len:Int):=by omega
   have ho:(wr.drew).cell? ⟨w.heap.size+2,0,none⟩=some (.slice qa done.length qc)∧(wr.drew).frozen? ⟨w.heap.size+2,0,none⟩=false:=⟨c2,f2'⟩;obtain⟨xk,xn,xv,xl⟩:=x;simp only at *;subst ex;clear h5 h6 hm hdn e0 hD hxm hx hmd;generalize hnl:xl.length=nl at *;go_wp2
   go_region_law (first
    | (refine A4 (by rfl) _ _ 23 (by rfl) (w.heap.size+3) 46 i0 _ 3 56 Tryz.underlying23 hi hz0 hz1 hz2 rfl (by decide) _ done.length _ (by rfl) (HOUT.out w7 B7 _) _ 1 _ (by rfl) (Cj w7 #[.string xk,.string xn,.slice a7 ls7.length c7] 46 3 rfl) (by intro y hy;simp at hy;rcases hy with rfl | rfl | rfl <;> rfl) (by unfold maxLen;omega) (by omega) (Nat.le_trans (Nat.le_trans hszw hz7) (by simp)) ?_
       intro ao8 cap8 w8 o8 g8 v8;have P8:=N2 (x:=⟨xk,xn,.slice a7 ls7.length c7,ls7⟩) HMD.out hszw o7 B7 o8 g8 v8;have ho8:=Adu ho P8.2 (by simp);have ho8a:=ho8.1;have ho8b:=ho8.2)
    | (go_simp
       go_wp2_with (go_at_call 105;refine HB.mono ?_;rintro e w7 ⟨v7,ls7,rfl,hp7,o7,B7⟩;obtain⟨a7,c7,rfl,_⟩:=Ai o7.row;have hz7:=B7.size;have ho7:=Adu ho B7 (by simp;omega);have ho7a:=ho7.1;have ho7c:=(Adu ho (B7.alloc hz7 (.cells #[.string xk,.string xn,.slice a7 ls7.length c7] 46)) (by simp;omega)).1)))
   all_goals
    have HST:=Aa (hstep.out (.slice a7 ls7.length c7) ls7 hp7);have HP:=Aa P8.1;have B8:=P8.2;have hz8:=B8.size;have r0:=(World.cell?_setCell_far w8 ⟨w.heap.size+2,0,none⟩ ⟨w.heap.size,0,none⟩ (.slice ao8 (done.length+1) cap8) (by simp)).trans ((B8.cell (p:=⟨w.heap.size,0,none⟩) (by simp)).trans c0);have r1:(w8.setCell ⟨w.heap.size+2,0,none⟩ (.slice ao8 (done.length+1) cap8)).heap[w.heap.size+1]?=some (.cells #[.slice none 0 0] 25 (0,0)):=by rw[Below.heap_setCell _ _ _ _ (by simp)];exact(B8.block (w.heap.size+1) (by omega)).trans z1
    have r2:=Aa (Af9 (u:=.slice ao8 (done.length+1) cap8) ho8a ho8b);have rb:=(bw.drew.trans (B8.mono (show w.heap.size≤w.heap.size+3 by omega))).setCell (p:=⟨w.heap.size+2,0,none⟩) (by simp) (.slice ao8 (done.length+1) cap8);clear HB HOUT HMD hstep ho o7 o8 g8 v8 P8 hp7 d1 d2 d3 c0 c2 f2' ho7 ho7a ho7c;go_wp2;go_roundw;case rel=>exact⟨done.length+1,_,ao8,cap8,by omega,by go_num,HST.out,by rw[List.length_append];exact HP.out.setCell _ (by simp) _,rb,by simp at hz8 ⊢;omega,r0,r1,by rw[List.length_append];exact r2.out.1,r2.out.2⟩
    case measure=>simp[intOf];omega
  ·have ej:done.length=len:=by omega
   have hls:bs.take done.length=bs:=by rw[ej,← en.out,List.take_length]
   rw[hls]at hdn;have HO:=Aa hm;have HD:=Aa hdn;have hlt':¬ ((done.length:Int)<(len:Int)):=by omega
   clear hm hdn hls ej;generalize done.length=nq at *;go_wp2_with (with_reducible show wpList _ _ _ (Oper.mk _ (Op.store _ (Operand.tmp 2) _) _ _ _ _::_) _ _;refine wpList_store_row rfl 25 _ _ rfl (w.heap.size+1) #[.slice qa nq qc] ?_ ?_ 25 _ z1 ?_ ?_ ?_ ?_)
   all_goals (first | rfl | kernel_rfl | exact A7 | skip)
   have z5:(wr.setRow (w.heap.size+1) #[.slice qa nq qc]).heap[w.heap.size+1]?=some (.cells #[.slice qa nq qc] 25 (0,0)):=setRow_heap _ _ _ _ _ _ z1
   have b5:Below w.heap.size w (wr.setRow (w.heap.size+1) #[.slice qa nq qc]) :=
    ⟨bw.os,bw.tape,bw.output,by rw[setRow_size];exact bw.size,fun k hk=>by rw[setRow_other _ _ _ _ (by omega)];exact bw.block k hk⟩
   have o5:=(HO.out.setRow (w.heap.size+1) (by omega) #[.slice qa nq qc]).mono (show w.heap.size≤w.heap.size+3 by omega);have y0:=Ab z5 0;simp only[List.getElem?_toArray,List.getElem?_cons_zero]at y0;generalize wr.setRow (w.heap.size+1) #[.slice qa nq qc]=W at b5 y0 z5 o5 ⊢;first | exact bodyPost_ret (v:=.agg #[.slice qa nq qc]) (by simp[results,Tryz.results55,go_sem,y0]) rfl ⟨_,done,rfl,HD.out,o5,b5⟩ | exact bodyPost_ret (v:=.agg #[.slice qa nq qc]) (by simp[results,Tryz.results55,go_sem,y0]) rfl ⟨_,rfl,done,HD.out,o5,b5⟩
variable {va vb:Value}{ys:List (List UInt8)}
theorem Za(xs ys:List (List UInt8)):(!decide (xs<ys) && !decide (ys<xs))=decide (xs=ys):=by
 by_cases h:xs=ys
 ·subst h;have:=Jj.irr xs;simp[this]
 ·by_cases h1:xs<ys
  ·simp[h,h1]
  ·by_cases h2:ys<xs
   ·simp[h,h2]
   ·exact absurd (Jj.tri _ _ h1 h2) h
theorem N6{xs:List (List UInt8)}(h1:An w va xs.length 1 (strs xs))(h2:An w vb ys.length 1 (strs ys))(hn:xs.length≤1048576)(hm:ys.length≤1048576):Calls Tryz.prog 91 #[va,vb] w fun e w'=>e=.returned (.bool (decide (xs=ys)))∧Below w.heap.size w w':=by
 obtain⟨ao,ca,rfl⟩:=h1.form;obtain⟨bo,cb,rfl⟩:=h2.form;have HL:=fun W hW=>Lu (w:=W) (h1.below hW) (h2.below hW) hn hm
 have HM:=fun W hW=>Lu (w:=W) (h2.below hW) (h1.below hW) hm hn
 have hE:=Za xs ys;generalize decide (xs=ys)=E at *;clear h1 h2;generalize xs.length=n at *;generalize ys.length=m at *;cases hd:decide (xs<ys)
 ·rw[hd]at HL hE;go_enter Tryz.func91,Tryz.ntmps91;go_wp2_with (go_at_call 156;refine(HL _ (Below.refl _ _)).mono ?_)
  first | rintro e w2 rfl q rfl | rintro e w2 ⟨rfl,q,rfl⟩
  have B1:Below w.heap.size w (w.drewN q):=below_drewN (Below.refl _ _) q;have HM2:=HM _ B1;have hE2:=Aa hE;clear HL hE;generalize decide (ys<xs)=E2 at *;go_wp2_with (go_at_call 156;refine HM2.mono ?_)
  first | rintro e w3 rfl q3 rfl | rintro e w3 ⟨rfl,q3,rfl⟩
  clear HM HM2;go_wp2;go_ret;exact⟨Av (by have:=hE2.out;simpa using this),below_drewN (Below.refl _ _) _⟩
 ·rw[hd]at HL hE;have hE2:=Aa hE;clear HM hE;go_enter Tryz.func91,Tryz.ntmps91;go_wp2_with (go_at_call 156;refine(HL _ (Below.refl _ _)).mono ?_)
  first | rintro e w2 rfl q rfl | rintro e w2 ⟨rfl,q,rfl⟩
  have B1:Below w.heap.size w (w.drewN q):=below_drewN (Below.refl _ _) q;clear HL;go_wp2;go_ret;exact⟨Av (by have:=hE2.out;simpa using this),B1⟩
theorem Z3(x:LAt)(rk:ByteArray)(g:Nat)(hx:∃ a n c,x.v=.slice a n c)(hg:w.cell? ⟨g,0,none⟩=some (.string rk)):Calls Tryz.prog 167 #[.agg #[.string x.key,x.v],.pointer (some ⟨g,0,none⟩)] w fun e w'=>e=.returned (.bool (x.key.toList == rk.toList))∧Below w.heap.size w w':=by
 obtain⟨a,n,c,e1⟩:=hx;rw[e1];have G:=(Below.refl w.heap.size w).alloc (Nat.le_refl _) (.cells #[.string x.key,.slice a n c] 115);have hg':=(G.cell (World.block_lt_of_cell? w _ hg)).trans hg;have k0:=Bg (w:=w) (cs:=#[.string x.key,.slice a n c]) (T:=115) 0;simp only[List.getElem?_toArray,List.getElem?_cons_zero]at k0;generalize x.key=xk at *;go_enter Tryz.func167,Tryz.ntmps167;go_wp2;go_ret;exact⟨rfl,G⟩
def Mu(ls:List LAt)(k:ByteArray)(j:Nat):Prop:=∀ x∈ls.take j,(x.key.toList == k.toList)=false
def Ahx(b:Bool)(w:World)(e:Ending)(w':World):Prop:=(∃ n:Int,e=.returned (.int .i64 n)∧(decide (n ≥ 0))=b)∧Below w.heap.size w w'
theorem Qt(key:ByteArray)(g:Nat)(h:Ah w v ls)(hl:ls.length≤1048576)(hg:w.cell? ⟨g,0,none⟩=some (.string key)):Calls Tryz.prog 220 #[v,.func (.func 167) #[] #[.pointer (some ⟨g,0,none⟩)]] w fun e w'=>Ahx (hasK (ls.map LAt.plain) key) w e w':=by
 obtain⟨ao,cap,rfl⟩:=h.1.form;generalize hn:ls.length=n at *;have en:=Aa hn;clear hn;go_enter Tryz.func220,Tryz.ntmps220;go_wp2;go_loopw [8] (fun i wr=>∃ j:Nat,j≤n∧i=.int .i64 (j:Int)∧Below w.heap.size w wr∧Mu ls key j) (fun i _=>n - (intOf i).toNat)
 case atStart=>exact⟨0,by omega,rfl,Below.refl _ _,by simp[Mu]⟩
 case round =>
  obtain⟨j,hj,rfl,G,hA⟩:=hrel;by_cases hlt:j<n
  ·obtain⟨D,x,T,e0,hD⟩:=Br ls j (by have:=en.out;omega);have h5:=h.below G;have hxm:x∈ls:=by rw[e0];simp
   have h6:=h5;rw[e0]at h6;obtain⟨b,off,rfl,c0,c1⟩:=h6.1.line;obtain⟨ax,cx,ex⟩:=An.form (h5.2 x hxm);have hg':wr.cell? ⟨g,0,none⟩=some (.string key):=(G.cell (World.block_lt_of_cell? w _ hg)).trans hg;have H:=Z3 x key g ⟨_,_,_,ex⟩ hg';rw[ex]at H c1;rw[hD]at c0 c1;have i1:(0:Int)≤(j:Int):=by omega
   have i2:(j:Int)<(n:Int):=by omega
   cases hk:(x.key.toList == key.toList)
   ·have HA:=Aa (show Mu ls key (j+1) from by
     unfold Mu at hA ⊢;rw[e0,← hD,Ch]at hA;rw[e0,← hD,Cq];intro y hy;rcases List.mem_append.1 hy with hy | hy
     ·exact hA y hy
     ·rw[List.mem_singleton.1 hy];exact hk)
    rw[hk]at H;clear h h5 h6 hA hg hg' e0 hD hxm hk;go_wp2_with (go_at_call 167;refine H.mono ?_)
    first | rintro e w1 rfl G1 | rintro e w1 ⟨rfl,G1⟩
    clear H;go_wp2;go_roundw;case rel=>exact⟨j+1,by omega,by go_num,G.trans (G1.mono G.size),HA.out⟩
    case measure=>simp[intOf];omega
   ·have HA:=Aa (show hasK (ls.map LAt.plain) key=true from by
     unfold hasK;rw[List.any_map,List.any_eq_true];exact⟨x,hxm,hk⟩)
    rw[hk]at H;clear h h5 h6 hA hg hg' e0 hD hxm hk;go_wp2_with (go_at_call 167;refine H.mono ?_)
    first | rintro e w1 rfl G1 | rintro e w1 ⟨rfl,G1⟩
    clear H;go_wp2;go_ret;exact⟨⟨(j:Int),rfl,by rw[HA.out];exact decide_eq_true i1⟩,G.trans (G1.mono G.size)⟩
  ·obtain rfl:j=n:=by omega
   have HA:=Aa (show hasK (ls.map LAt.plain) key=false from by
    unfold hasK;rw[List.any_map,List.any_eq_false];unfold Mu at hA;rw[← en.out,List.take_length]at hA;intro x hx;have:=hA x hx;show ¬ (x.key.toList == key.toList)=true
    rw[this];decide)
   clear hA h;go_wp2;go_ret;exact⟨⟨-1,rfl,by rw[HA.out];rfl⟩,G⟩
theorem Mv(key:ByteArray)(g:Nat)(h:Ah w v ls)(hl:ls.length≤1048576)(hg:w.cell? ⟨g,0,none⟩=some (.string key)):Calls Tryz.prog 166 #[v,.func (.func 167) #[] #[.pointer (some ⟨g,0,none⟩)]] w fun e w'=>e=.returned (.bool (hasK (ls.map LAt.plain) key))∧Below w.heap.size w w':=by
 have H:=Qt key g h hl hg;generalize hasK (ls.map LAt.plain) key=K at *;clear h hg;obtain⟨v0,hv0⟩:∃ v0,v0=v:=⟨_,rfl⟩;subst hv0;go_enter Tryz.func166,Tryz.ntmps166;go_wp2_with (go_at_call 220;refine H.mono ?_)
 rintro e w1 ⟨⟨n,rfl,hn⟩,b1⟩;clear H;subst hn;go_wp2;go_ret;exact⟨rfl,b1⟩
theorem Z4(key:ByteArray)(h:Ah w v ls)(hl:ls.length≤1048576):Calls Tryz.prog 111 #[v,.string key] w fun e w'=>e=.returned (.bool (hasK (ls.map LAt.plain) key))∧Below w.heap.size w w':=by
 have G:=(Below.refl w.heap.size w).alloc (Nat.le_refl _) (.cells #[.string key] 9);have k0:=Bg (w:=w) (cs:=#[.string key]) (T:=9) 0;simp only[List.getElem?_toArray,List.getElem?_cons_zero]at k0;have H:=Mv key w.heap.size (h.below G) hl k0;generalize hasK (ls.map LAt.plain) key=K at *;clear h;go_enter Tryz.func111,Tryz.ntmps111;go_wp2_with (go_at_call 166;refine H.mono ?_)
 first | rintro e w1 rfl b1 | rintro e w1 ⟨rfl,b1⟩
 clear H;go_wp2;go_ret;exact⟨rfl,G.trans (b1.mono (by simp))⟩
theorem Q5(hbs:Aw w v bs)(hsm:A2 bs):Calls Tryz.prog 129 #[v] w fun e w'=>∃ v' bs',e=.returned v'∧bs'.map BAt.plain=bs.map BAt.plain∧As w.heap.size w' v' bs'∧Below w.heap.size w w':=by
 obtain⟨ao,cap,rfl⟩:=hbs.1.form;have hl:=hsm.1;generalize hn:bs.length=len at *;have en:=Aa hn;clear hn;have hBS:=Aa hbs;have hSM:=Aa hsm;clear hbs hsm;obtain⟨i0,hi,hz0,hz1,hz2⟩:=info_parts Cn;go_enter Tryz.func129,Tryz.ntmps129;go_wp2;go_loopw [3,8] (fun q i wr=>∃(j:Nat) (done:List BAt),j≤len∧i=.int .i64 (j:Int)∧done.map BAt.plain=(bs.take j).map BAt.plain∧As w.heap.size wr q done∧Below w.heap.size w wr) (fun _ i _=>len - (intOf i).toNat)
 case atStart=>exact⟨0,[],by omega,rfl,by simp,Fx _ _,Below.refl _ _⟩
 case round =>
  obtain⟨j,done,hj,rfl,hdn,hm,bw⟩:=hrel;obtain⟨qa,qc,rfl,_⟩:=Ai hm.row;have hdl:done.length=j:=by have:=congrArg List.length hdn;simp at this;have:=en.out;omega
  subst hdl;have hszw:=bw.size;by_cases hlt:done.length<len
  ·obtain⟨D,x,T,e0,hD⟩:=Br bs done.length (by have:=en.out;omega);have h5:=hBS.out.below bw;have hxm:x∈bs:=by rw[e0];simp
   have h6:=h5;rw[e0]at h6;obtain⟨g,off,rfl,d1,d2,d3⟩:=h6.1.block;rw[hD]at d1 d2 d3;have hstep:=Aa (show ∀(v':Value) (ls':List LAt),ls'.map LAt.plain=x.ls.map LAt.plain→(done++[⟨x.kind,x.name,v',ls'⟩]:List BAt).map BAt.plain=(bs.take (done.length+1)).map BAt.plain from by
    intro v' ls' hp;rw[List.map_append,hdn,e0,← hD,Ch,Cq,List.map_append,List.map_singleton,List.map_singleton];unfold BAt.plain;rw[hp])
   have hx:=Aa (h5.2 x hxm);have hxs:=Aa (hSM.out.2 x hxm).2;obtain⟨xa,xc,ex⟩:=(h5.2 x hxm).1.form;have bx:=(Below.refl wr.heap.size wr).alloc (Nat.le_refl _) (.cells #[.string x.kind,.string x.name,.slice xa x.ls.length xc] 46);have k0:=Bg (w:=wr) (cs:=#[.string x.kind,.string x.name,.slice xa x.ls.length xc]) (T:=46) 0;have k1:=Bg (w:=wr) (cs:=#[.string x.kind,.string x.name,.slice xa x.ls.length xc]) (T:=46) 1;have k2:=Bg (w:=wr) (cs:=#[.string x.kind,.string x.name,.slice xa x.ls.length xc]) (T:=46) 2;simp only[List.getElem?_toArray,List.getElem?_cons_zero,List.getElem?_cons_succ]at k0 k1 k2;have bd:=bx.drew;have hK7:(wr.alloc (.cells #[.string x.kind,.string x.name,.slice xa x.ls.length xc] 46)).drew.cell? ⟨wr.heap.size,0,none⟩=some (.string x.kind)∧(wr.alloc (.cells #[.string x.kind,.string x.name,.slice xa x.ls.length xc] 46)).drew.cell? ⟨wr.heap.size,1,none⟩=some (.string x.name)∧(wr.alloc (.cells #[.string x.kind,.string x.name,.slice xa x.ls.length xc] 46)).drew.cell? ⟨wr.heap.size,2,none⟩=some (.slice xa x.ls.length xc):=⟨k0,k1,k2⟩;have HCp:=Fk (show Ah (wr.alloc (.cells #[.string x.kind,.string x.name,.slice xa x.ls.length xc] 46)).drew x.v x.ls from Ah.below hx.out bd) hxs.out;have hdsz:(wr.alloc (.cells #[.string x.kind,.string x.name,.slice xa x.ls.length xc] 46)).drew.heap.size=wr.heap.size+1:=by simp
   have hHM:=Aa hm;have i1:(0:Int)≤(done.length:Int):=by omega
   have i2:(done.length:Int)<(len:Int):=by omega
   obtain⟨xk,xn,xv,xl⟩:=x;simp only at *;subst ex;have hMD:As w.heap.size (wr.alloc (.cells #[.string xk,.string xn,.slice xa xl.length xc] 46)).drew (.slice qa done.length qc) done:=hm.below bd;have hszd:w.heap.size≤(wr.alloc (.cells #[.string xk,.string xn,.slice xa xl.length xc] 46)).drew.heap.size:=Nat.le_trans (by omega) bd.size;have HOUT:=Aa (show ∀ w7,Below (wr.alloc (.cells #[.string xk,.string xn,.slice xa xl.length xc] 46)).drew.heap.size (wr.alloc (.cells #[.string xk,.string xn,.slice xa xl.length xc] 46)).drew w7→∀ cs,(w7.alloc (.cells cs 46)).ownsRow w.heap.size 46 3 (.slice qa done.length qc) done.length (done.flatMap BAt.cells) from fun w7 b7 cs=>(Cd hMD.row b7).alloc _);have HMD:=Aa hMD;have hfar:=Aa (show ∀(w4 w3:World),w4.grownBy w3 (Value.slice qa done.length qc).ownBlock→wr.heap.size<w4.heap.size→∀ o,w3.cell? ⟨wr.heap.size,o,none⟩=w4.cell? ⟨wr.heap.size,o,none⟩ from fun w4 w3 hg hl o=>hg.cell_far _ hl (fun e=>by have:=(hHM.out.row.lt _ e.symm).2;simp at this));clear h5 h6 hm hdn e0 hD hxm k0 k1 k2 hx hMD hxs;generalize hnl:xl.length=nl at *;clear hnl;go_wp2
   go_region_held3 (fun W=>W.cell? ⟨wr.heap.size,0,none⟩=some (.string xk)∧W.cell? ⟨wr.heap.size,1,none⟩=some (.string xn)∧W.cell? ⟨wr.heap.size,2,none⟩=some (.slice xa nl xc))
    (first | exact hK7 | exact hK8 | exact hK8a | exact hK9)
    (first
      | (go_at_call 94
         refine HCp.mono ?_;rintro e w7 ⟨v7,ls7,rfl,hp7,o7,B7⟩;obtain⟨a7,c7,rfl,_⟩:=Ai o7.row;have hz7:=B7.size;have hK8:=N3 B7 hK7 (by simp);have hK8a:=N3 (B7.alloc hz7 (.cells #[.string xk,.string xn,.slice a7 ls7.length c7] 46)) hK7 (by simp))
      | (refine A4 (by rfl) _ _ 23 (by rfl) w.heap.size 46 i0 _ 3 56 Tryz.underlying23 hi hz0 hz1 hz2 rfl (by decide) _ done.length _ (by rfl) (HOUT.out w7 B7 _) _ 1 _ (by rfl) (Cj w7 #[.string xk,.string xn,.slice a7 ls7.length c7] 46 3 rfl) (by intro y hy;simp at hy;rcases hy with rfl | rfl | rfl <;> rfl) (by unfold maxLen;omega) (by omega) (Nat.le_trans (Nat.le_trans hszd hz7) (by simp)) ?_
         intro ao8 cap8 w8 o8 g8 v8;have P8:=N2 (x:=⟨xk,xn,.slice a7 ls7.length c7,ls7⟩) HMD.out hszd o7 B7 o8 g8 v8;have hl4:wr.heap.size<(w7.alloc (.cells #[.string xk,.string xn,.slice a7 ls7.length c7] 46)).heap.size:=by simp at hz7 ⊢;omega
         have hK9:=And.intro ((hfar.out _ _ g8 hl4 0).trans hK8a.1) (And.intro ((hfar.out _ _ g8 hl4 1).trans hK8a.2.1) ((hfar.out _ _ g8 hl4 2).trans hK8a.2.2))))
   have HST:=Aa (hstep.out (.slice a7 ls7.length c7) ls7 hp7);have BF:Below w.heap.size w w8:=bw.trans ((bd.mono (by omega)).trans P8.2);clear hstep HOUT HMD hfar hK7 hK8 hK8a hK9 o7 o8 g8 v8 HCp;go_wp2;go_roundw;case rel=>exact⟨done.length+1,_,by omega,by go_num,HST.out,P8.1,BF⟩
   case measure=>simp[intOf];omega
  ·have ej:done.length=len:=by omega
   have hls:bs.take done.length=bs:=by rw[ej,← en.out,List.take_length]
   rw[hls]at hdn;have HG:=Aa hdn;have hlt':¬ ((done.length:Int)<(len:Int)):=by omega
   have HM:=Aa hm;clear hm hdn hls ej;go_wp2;exact bodyPost_ret (v:=.slice qa done.length qc) (by simp[results,Tryz.results129,go_sem]) rfl (by first | exact⟨_,done,rfl,HG.out,HM.out,bw⟩ | exact⟨_,rfl,done,HG.out,HM.out,bw⟩)
variable {n i:Nat}{xs:List Value}{D T:List BAt}
theorem Aac(w:World)(ty:TypeId)(b o c:Nat)(hc:w.there b o 3):(Builtin.clear_ #[23] ty #[.slice (some ⟨b,o,none⟩) 1 c]).run Tryz.prog w=.ok (.tuple #[]) (w.setCells b o [.string ⟨#[]⟩,.string ⟨#[]⟩,.slice none 0 0]):=by
 obtain⟨i0,hi,hz0,hz1,hz2⟩:=info_parts Cn;have hv:(zeroValue 46).run Tryz.prog w=.ok (.agg #[.string ⟨#[]⟩,.string ⟨#[]⟩,.slice none 0 0]) w:=by simp[zeroValue,typeInfo,hi,hz0]
 have hst:=run_storeCells_cells (P:=Tryz.prog) b o [.string ⟨#[]⟩,.string ⟨#[]⟩,.slice none 0 0] 0 w (fun j hj=>by rw[Nat.add_zero];exact(hc j (by simpa using hj)).1) (fun j hj=>by rw[Nat.add_zero];exact(hc j (by simpa using hj)).2) (by intro v hv';simp at hv';rcases hv' with rfl | rfl | rfl <;> rfl)
 simp only[Nat.add_zero]at hst;have hzc:(Builtin.zeroCells (Value.agg #[.string ⟨#[]⟩,.string ⟨#[]⟩,.slice none 0 0]).cells 1).toList=[.string ⟨#[]⟩,.string ⟨#[]⟩,.slice none 0 0]:=by kernel_rfl
 simp[Builtin.clear_,run_underlying Tryz.underlying23,hv,hzc,hst]
theorem Ya{cap:Nat}{ys:List Value}(h:w.ownsRow B 46 3 (.slice (some ⟨g,0,none⟩) (n+1) cap) (n+1) xs)(hy:xs.take (n * 3)=ys):w.ownsRow B 46 3 (.slice (some ⟨g,0,none⟩) n cap) n ys:=by
 obtain⟨hl,h⟩:=h;rcases h with ⟨h,_⟩ | ⟨g',cap',cur,hv,hb,hg,hn,hm,hs,ht⟩
 ·cases h
 ·cases hv
  refine⟨?_,.inr ⟨g,cap,cur,rfl,hb,hg,by omega,hm,hs,?_⟩⟩
  ·rw[← hy,List.length_take,hl];omega
  ·rw[← hy,← ht,List.take_take,Nat.min_eq_left (by omega)]
theorem Aad{cap:Nat}{x:BAt}(h:w.ownsRow B 46 3 (.slice (some ⟨g,0,none⟩) (n+1) cap) (n+1) ((D++x::T).flatMap BAt.cells))(hn:(D++x::T).length=n+1)(hD:D.length=i)(hfo:∀ y∈D++x::T,∃ a m c,y.v=.slice a m c):
  Calls Tryz.prog 174 #[.slice (some ⟨g,0,none⟩) (n+1) cap,.int .i64 (i:Int),.int .i64 ((i:Int)+1)] w fun e w'=>e=.returned (.slice (some ⟨g,0,none⟩) n cap)∧w'.ownsRow B 46 3 (.slice (some ⟨g,0,none⟩) n cap) n ((D++T).flatMap BAt.cells)∧w.grownBy w' (some g):=by
 obtain⟨i0,hi,hz0,hz1,hz2⟩:=info_parts Cn;have hcap:n+1≤cap∧cap≤maxLen:=(Bo h).cap;have hTl:T.length=n - i:=by simp at hn;omega
 have hin:i≤n:=by simp at hn;omega
 have hnews:(T.flatMap BAt.cells).length=(n - i) * 3:=by rw[By BAt.cells 3 BAt.len,hTl]
 have hDl:(D.flatMap BAt.cells).length=i * 3:=by rw[By BAt.cells 3 BAt.len,hD]
 have H1:=Aa (Fs (bs:=T) (fun y hy=>hfo y (by simp[hy])));obtain⟨ys,hy1,hy2,hy3⟩:=Ci (T.flatMap BAt.cells) (0+i * 3) w.drew _ (show w.drew.ownsRow B 46 3 (.slice (some ⟨g,0,none⟩) (n+1) cap) (n+1) ((D++x::T).flatMap BAt.cells) from h);have hE:(D++x::T).flatMap BAt.cells=D.flatMap BAt.cells++(x.cells++T.flatMap BAt.cells):=by simp
 have hB:D.flatMap BAt.cells++(x.cells++T.flatMap BAt.cells)=D.flatMap BAt.cells++(x.cells++T.flatMap BAt.cells).take ((n - i) * 3)++(x.cells++T.flatMap BAt.cells).drop ((n - i) * 3):=by rw[List.append_assoc,List.take_append_drop]
 have hxl:(x.cells++T.flatMap BAt.cells).length=(n - i) * 3+3:=by rw[List.length_append,hnews,BAt.len];omega
 have hys:ys=D.flatMap BAt.cells++T.flatMap BAt.cells++(x.cells++T.flatMap BAt.cells).drop ((n - i) * 3):=hy3 _ _ _ (hE.trans hB) (by rw[hDl];omega) (by rw[List.length_take,hxl,hnews];omega);obtain⟨zs,hz1',hz2',hz3'⟩:=Ci [.string ⟨#[]⟩,.string ⟨#[]⟩,.slice none 0 0] (n * 3) _ _ hy1;have hDT:(D.flatMap BAt.cells++T.flatMap BAt.cells).length=n * 3:=by rw[List.length_append,hDl,hnews];omega
 have hzs:zs=(D.flatMap BAt.cells++T.flatMap BAt.cells)++[.string ⟨#[]⟩,.string ⟨#[]⟩,.slice none 0 0]++[]:=hz3' (D.flatMap BAt.cells++T.flatMap BAt.cells) ((x.cells++T.flatMap BAt.cells).drop ((n - i) * 3)) [] (by rw[List.append_nil];exact hys) hDT (by rw[List.length_drop,hxl];simp);have HOWN:=Aa (Ya (ys:=(D++T).flatMap BAt.cells) hz1' (by rw[hzs,List.append_nil,List.flatMap_append,← hDT,List.take_left]));have hgr:=A1 hy2 hz2';have HGR:=Aa (show w.grownBy _ (some g) from⟨hgr.os,hgr.tape,hgr.output,hgr.size,hgr.block⟩);clear hgr;have TH:=Cx hy1 (n * 3) 3 (by omega);have SP:=Aa (show ∀ t,t<(T.flatMap BAt.cells).length→(w.drew.cell? ⟨g,0+i * 3+t,none⟩).isSome=true∧w.drew.frozen? ⟨g,0+i * 3+t,none⟩=false from fun t ht=>Cx (show w.drew.ownsRow B 46 3 (.slice (some ⟨g,0,none⟩) (n+1) cap) (n+1) _ from h) (0+i * 3) ((n - i) * 3) (by omega) t (by rw[← hnews];exact ht));have SRC:=Aa (show ∀ t u,(T.flatMap BAt.cells)[t]?=some u→w.cell? ⟨g,(i+1) * 3+t,none⟩=some u from fun t u hu=>by
  have:=h.cells rfl ((i+1) * 3+t) u (by rw[hE,List.getElem?_append_right (by rw[hDl];omega),List.getElem?_append_right (by rw[hDl,BAt.len];omega),hDl,BAt.len,show (i+1) * 3+t - i * 3 - 3=t by omega];exact hu);simpa [I5] using this)
 obtain⟨A,hA,HSRC⟩:∃ A:Addr,(if cap=i+1 then some (⟨g,0,none⟩:Addr) else some ⟨g,(i+1) * 3,none⟩)=some A∧Hid (∀ t u,(T.flatMap BAt.cells)[t]?=some u→w.drew.cell? (A.add t)=some u):=by
  by_cases hc:cap=i+1
  ·refine⟨⟨g,0,none⟩,by simp[hc],Aa fun t u hu=>?_⟩;have h0:(T.flatMap BAt.cells).length=0:=by rw[hnews];omega
   rw[List.length_eq_zero_iff.1 h0]at hu;simp at hu
  ·exact⟨⟨g,(i+1) * 3,none⟩,by simp[hc],Aa fun t u hu=>by rw[I5];exact SRC.out t u hu⟩
 have S1:=Aa hnews;have hcl:=fun ty=>Aac (w.drew.setCells g (0+i * 3) (T.flatMap BAt.cells)) ty g (n * 3) (cap - n) TH
 have hmx:cap≤9223372036854775807:=hcap.2;have m0:(0:Int)≤(i:Int):=by omega
 have m1:(i:Int)≤(i:Int)+1:=by omega
 have m2:(i:Int)+1≤(n:Int)+1:=by omega
 have m3:(n:Int)+1≤(cap:Int):=by omega
 have m4:(i:Int)≤(cap:Int):=by omega
 have m5:(i:Int)+1≤(cap:Int):=by omega
 have m6:¬ ((i:Int)=(i:Int)+1):=by omega
 have m7:((i:Int) == (i:Int)+1)=false:=by simpa using m6
 have m8:((i:Int)+1).toNat=i+1:=by omega
 have m9:¬ (cap=n):=by omega
 have m10:(0:Int)≤(i:Int)+1:=by omega
 have mixed:Tryz.prog.follows .mixedOrders=true:=by kernel_rfl
 clear hy1 hy2 hy3 hys hz1' hz2' hz3' hzs hB hE hxl hDl hDT hnews hn hD hTl hfo h SRC TH;go_enter Tryz.func174,Tryz.ntmps174;go_wp2_with fail
 generalize hW:w.drew.setCells g (0+i * 3) (T.flatMap BAt.cells)=W1 at *;go_region_law_o (refine step_append_room rfl (.tmp 22) (.tmp 25) 23 rfl 46 i0 3 Tryz.underlying23 hi hz1 g 0 i cap (by simp[Act.eval,Act.put]) A (n - i) (cap - (i+1)) (T.flatMap BAt.cells) (by simp[Act.eval,Act.put]) S1.out HSRC.out H1.out (by omega) SP.out ?_;rw[hW])
 go_wp2;exact bodyPost_ret (v:=.slice (some ⟨g,0,none⟩) n cap) (by simp[results,Tryz.results174,go_sem]) rfl ⟨rfl,HOWN.out,HGR.out⟩
end Go.Proofs.YtpdahhnjhggocaaGreatDoor
