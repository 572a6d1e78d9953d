import Derived.Test.YtpdahhnjhggocaaGreatDoorMz21
import Derived.Test.YtpdahhnjhggocaaGreatDoorMz27
namespace Go.Proofs.YtpdahhnjhggocaaGreatDoor
open Go.RowKit
set_option maxHeartbeats 16000000
set_option maxRecDepth 100000
variable {w:World}
theorem Mf{b:BAt}(key:ByteArray)(hb:Cb w b)(hs:Ae b.ls):Calls Tryz.prog 89 #[.agg #[.string b.kind,.string b.name,b.v],.string key] w fun e w'=>∃ v' ls',e=.returned v'∧ls'.map LAt.plain=Jb (b.ls.map LAt.plain) key∧A3 w.heap.size w' v' ls'∧Ae ls'∧Below w.heap.size w w':=by
 obtain⟨bk,bn,bv,ls⟩:=b;unfold Cb at hb;simp only at *;obtain⟨ao,cap,rfl⟩:=hb.1.form;have hof:(ls.filter fun x=>x.key.toList == key.toList).map LAt.plain=Jb (ls.map LAt.plain) key:=by
  unfold Jb;rw[List.filter_map];rfl
 have HOF:=Aa hof;clear hof;have hl:=hs.1;generalize hn:ls.length=len at *;have en:=Aa hn;clear hn;obtain⟨i0,hi,hz0,hz1,hz2⟩:=info_parts Ez;have G:=(Below.refl w.heap.size w).alloc (Nat.le_refl _) (.cells #[.string bk,.string bn,.slice ao len cap] 46);have k2:=Bg (w:=w) (cs:=#[.string bk,.string bn,.slice ao len cap]) (T:=46) 2;simp only[List.getElem?_toArray,List.getElem?_cons_zero,List.getElem?_cons_succ]at k2;have hb0:=hb.below G;have hown0:=World.ownsRow_lit (base:=w.heap.size+1) (e:=115) (size:=2) (w.alloc (.cells #[.string bk,.string bn,.slice ao len cap] 46)) #[] 0 (by simp) (by decide) rfl;simp only[World.size_alloc]at hown0;have b00:=(Below.refl (w.heap.size+1) (w.alloc (.cells #[.string bk,.string bn,.slice ao len cap] 46))).alloc (by simp) (.cells #[] 115);clear hb;go_enter Tryz.func89,Tryz.ntmps89;go_wp2;go_loopw [5,6] (fun u i wr=>∃(j:Nat) (done:List LAt),j≤len∧i=.int .i64 (j:Int)∧done=(ls.take j).filter (fun x=>x.key.toList == key.toList)∧wr.ownsRow (w.heap.size+1) 115 2 u done.length (done.flatMap LAt.cells)∧Below (w.heap.size+1) (w.alloc (.cells #[.string bk,.string bn,.slice ao len cap] 46)) wr) (fun _ i _=>len - (intOf i).toNat)
 case atStart=>exact⟨0,[],by omega,rfl,by simp,by simpa using hown0,b00⟩
 case round =>
  obtain⟨j,done,hj,rfl,hdn,hm,bw⟩:=hrel;obtain⟨qa,qc,rfl,_⟩:=Ai hm;have hdl:done.length≤j:=by rw[hdn];exact Nat.le_trans (List.length_filter_le _ _) (by simp;omega)
  have k3:=(bw.cell (p:=⟨w.heap.size,2,none⟩) (by simp)).trans k2;have hszw:=bw.size;simp only[World.size_alloc]at hszw;by_cases hlt:j<len
  ·obtain⟨D,x,T,e0,hD⟩:=Br ls j (by have:=en.out;omega);have h5:=hb0.below (by simpa using bw);have hxm:x∈ls:=by rw[e0];simp
   have h6:=h5;rw[e0]at h6;obtain⟨g,off,rfl,c1,c2⟩:=h6.1.line;obtain⟨ax,cx,e1⟩:=An.form (h5.2 x hxm);have hst:=Aa (show (ls.take (j+1)).filter (fun x=>x.key.toList == key.toList)=done++[x].filter (fun x=>x.key.toList == key.toList) from by rw[hdn,e0,← hD,Ch,Cq,List.filter_append]);rw[e1]at c2;rw[hD]at c1 c2;have hB0:(0:Int)≤(j:Int):=by omega
   have hB1:(j:Int)<(len:Int):=by omega
   have hcells:=Aa (show (LAt.cells x)=[.string x.key,.slice ax x.ws.length cx] from by unfold LAt.cells;rw[e1]);have hm':=Aa hm;have hbase:=Aa (show ∀ k,(Value.slice qa done.length qc).ownBlock=some k→w.heap.size+1≤k from fun k hk=>(hm.lt k hk).1);cases hp:(x.key.toList == key.toList)
   ·have hst':=Aa (show (ls.take (j+1)).filter (fun x=>x.key.toList == key.toList)=done from by rw[hst.out];simp[hp]);clear h5 h6 hdn hm e0 e1 hD hxm hst hcells hb0 hs;generalize x.key=xk at *;generalize x.ws.length=nx at *;go_wp2;go_roundw;case rel=>exact⟨j+1,done,by omega,by go_num,hst'.out.symm,hm'.out,bw⟩
    case measure=>simp[intOf];omega
   ·have hst':=Aa (show (ls.take (j+1)).filter (fun x=>x.key.toList == key.toList)=done++[x] from by rw[hst.out];simp[hp]);have hone:=Fr (ls:=[x]) (fun y hy=>by rw[List.mem_singleton.1 hy];exact⟨_,_,_,e1⟩);rw[List.flatMap_singleton,hcells.out]at hone;clear h5 h6 hdn hm e0 e1 hD hxm hst hb0 hs;have hm3:=hm'.out.alloc (.cells #[.string x.key,.slice ax x.ws.length cx] 115);have b4:=bw.alloc hszw (.cells #[.string x.key,.slice ax x.ws.length cx] 115);have hrow:=Cj wr #[.string x.key,.slice ax x.ws.length cx] 115 2 rfl;go_wp2_with (at_builtin;refine Be (by rfl) _ _ 44 (by rfl) (w.heap.size+1) 115 i0 _ 2 40 Tryz.underlying44 hi hz0 hz1 hz2 rfl (by decide) _ done.length _ (by rfl) hm3 _ 1 _ (by rfl) hrow hone ?c3 ?c4 (Nat.le_trans hszw (by simp)) ?_)
    case c3=>unfold maxLen;omega
    case c4=>omega
    intro ao' cap' w5 hown5 hg5 _;have hB5:=b4.grown hg5 (by simp;omega) hbase.out;have HO:=Aa (show w5.ownsRow (w.heap.size+1) 115 2 (.slice ao' (done.length+1) cap') (done++[x]).length ((done++[x]).flatMap LAt.cells) from by
     rw[List.flatMap_append,List.flatMap_singleton,hcells.out,List.length_append];exact hown5)
    clear hm3 hrow hone hown5 hg5 hbase hm';go_wp2;go_roundw;case rel=>exact⟨j+1,done++[x],by omega,by go_num,hst'.out.symm,HO.out,hB5⟩
    case measure=>simp[intOf];omega
  ·obtain rfl:j=len:=by omega
   have hls:ls.take j=ls:=by rw[← en.out,List.take_length]
   rw[hls]at hdn;have h5:=hb0.below (by simpa using bw);have hin:Ah wr (.slice qa done.length qc) done:=⟨Bo hm,fun x hx=>h5.2 x (by rw[hdn]at hx;exact(List.mem_filter.1 hx).1)⟩;have hsd:Ae done:=⟨by omega,fun x hx=>hs.2 x (by rw[hdn]at hx;exact(List.mem_filter.1 hx).1)⟩;have HL:=Hh hin hsd;have g5:Below w.heap.size w wr:=G.trans (bw.mono (by omega));have HOF2:=Aa (show done.map LAt.plain=Jb (ls.map LAt.plain) key from by rw[hdn];exact HOF.out);have HSD:=Aa hsd;clear h5 hb0 hs hm hdn hls hin hsd HOF;generalize done.length=nd at *;go_wp2_with (go_at_call 97;refine HL.mono ?_)
   first | rintro e w7 v7 rfl ls7 hp7 o7 b7 | rintro e w7 v7 ls7 rfl hp7 o7 b7 | rintro e w7 ⟨v7,ls7,rfl,hp7,o7,b7⟩
   have HG:=Aa (hp7.trans HOF2.out);have o7':=Aa (o7.mono g5.size);have g8:=g5.trans (b7.mono g5.size);have hs7:=Aa (HSD.out.same hp7);obtain⟨va7,vc7,rfl,_⟩:=Ai o7.row;clear HL o7 hp7 b7;go_wp2;go_ret;first | exact⟨_,ls7,rfl,HG.out,o7'.out,hs7.out,g8⟩ | exact⟨_,rfl,ls7,HG.out,o7'.out,hs7.out,g8⟩
def Qh(K:Bool)(w:World)(e:Ending)(w':World):Prop:=∃ a n c,e=.returned (.slice a n c)∧(((n:Int) == 0)=K)∧Below w.heap.size w w'
theorem Ab2{b:BAt}(key:ByteArray)(hb:Cb w b)(hs:Ae b.ls):Calls Tryz.prog 89 #[.agg #[.string b.kind,.string b.name,b.v],.string key] w fun e w'=>Qh (!hasK (b.ls.map LAt.plain) key) w e w':=by
 refine(Mf key hb hs).mono ?_;rintro e w' ⟨v',ls',rfl,hp,ho,_,bb⟩;obtain⟨a,c,rfl,_⟩:=Ai ho.row;refine⟨a,_,c,rfl,?_,bb⟩;rw[← Af2,← hp];cases ls' with
 | nil=>rfl
 | cons x l=>simp;omega
def sameN(ls:List PLine)(a:PLine):Nat:=ls.countP (fun o=>o.key.toList == a.key.toList && decide (o.ws=a.ws))
def Agd(n m:Nat)(w:World)(e:Ending)(w':World):Prop:=e=.returned (.tuple #[.int .i64 (n:Int),.int .i64 (m:Int)])∧Below w.heap.size w w'
theorem Ab3(ls:List PLine)(a:PLine)(k:ByteArray):keyN (ls++[a]) k=keyN ls k+(if (a.key.toList == k.toList)=true then 1 else 0):=by
 unfold keyN;rw[List.countP_append,List.countP_singleton]
theorem Zi(ls:List PLine)(a x:PLine):sameN (ls++[a]) x=sameN ls x+(if (a.key.toList == x.key.toList && decide (a.ws=x.ws))=true then 1 else 0):=by
 unfold sameN;rw[List.countP_append,List.countP_singleton]
theorem Ab4{b:BAt}{x:LAt}(hb:Cb w b)(hs:Ae b.ls)(hx:Dm w x)(hxs:x.ws.length≤1048576):Calls Tryz.prog 155 #[.agg #[.string b.kind,.string b.name,b.v],.agg #[.string x.key,x.v]] w fun e w'=>Agd (keyN (b.ls.map LAt.plain) x.key) (sameN (b.ls.map LAt.plain) x.plain) w e w':=by
 obtain⟨bk,bn,bv,bl⟩:=b;obtain⟨xk,xv,xw⟩:=x;unfold Cb at hb;unfold Dm at hx;simp only at *;obtain⟨la,lc,rfl⟩:=hb.1.form;obtain⟨xa,xc,rfl⟩:=hx.form;have hc:=Di (w:=w) (cs:=#[.string bk,.string bn,.slice la bl.length lc]) (ds:=#[.string xk,.slice xa xw.length xc]) (T:=46) (U:=115);have c2:=hc.1 2;have d0:=hc.2 0;have d1:=hc.2 1;simp only[List.getElem?_toArray,List.getElem?_cons_zero,List.getElem?_cons_succ]at c2 d0 d1;clear hc;have G0:Below w.heap.size w ((w.alloc (.cells #[.string bk,.string bn,.slice la bl.length lc] 46)).alloc (.cells #[.string xk,.slice xa xw.length xc] 115)):=((Below.refl _ _).alloc (Nat.le_refl _) _).alloc (by simp) _;have hbs:=Aa (hb.below G0);have hxi:=Aa (An.below hx G0);have hsm:=Aa hs;have hl:=hs.1;clear hb hs hx;generalize hn:bl.length=len at *;have en:=Aa hn;clear hn;generalize hnx:xw.length=nx at *;have enx:=Aa hnx;clear hnx;generalize hW0:(w.alloc (.cells #[.string bk,.string bn,.slice la len lc] 46)).alloc (.cells #[.string xk,.slice xa nx xc] 115)=W0 at *;have eW0:=Aa hW0;clear hW0;go_enter Tryz.func155,Tryz.ntmps155;go_wp2;go_loopw [6,7,8] (fun n m i wr=>∃(D T:List LAt) (a c:Nat),i=.int .i64 (D.length:Int)∧n=.int .i64 (a:Int)∧m=.int .i64 (c:Int)∧D.length≤len∧a≤D.length∧c≤D.length∧Hid (bl=D++T)∧Hid (a=keyN (D.map LAt.plain) xk∧c=sameN (D.map LAt.plain) ⟨xk,xw⟩)∧Below W0.heap.size W0 wr) (fun _ _ i _=>len - (intOf i).toNat)
 case atStart =>
  rw[eW0.out];exact⟨[],bl,0,0,rfl,rfl,rfl,by simp,by simp,by simp,(rfl:bl=[]++bl),(⟨rfl,rfl⟩:(0:Nat)=keyN [] xk∧(0:Nat)=sameN [] ⟨xk,xw⟩),Below.refl _ _⟩
 case round =>
  obtain⟨D,T,a,c,rfl,rfl,rfl,hDl,ha,hcl,hDT,hac,bw⟩:=hrel;have e2:=(bw.cell (World.block_lt_of_cell? W0 _ c2)).trans c2;have f0:=(bw.cell (World.block_lt_of_cell? W0 _ d0)).trans d0;have f1:=(bw.cell (World.block_lt_of_cell? W0 _ d1)).trans d1;cases T with
  | nil =>
   have hDlen:D.length=len:=by rw[← en.out,hDT.out];simp
   have hno:¬ ((D.length:Int)<(len:Int)):=by omega
   have hres:=Aa (show a=keyN (bl.map LAt.plain) xk∧c=sameN (bl.map LAt.plain) ⟨xk,xw⟩ from by rw[hDT.out,List.append_nil];exact hac.out);clear hDT hac hbs hxi hsm c2 d0 d1;go_wp2;go_ret2
   exact⟨by rw[hres.out.1,hres.out.2];rfl,G0.trans (bw.mono G0.size)⟩
  | cons y T =>
   have hDlen:D.length<len:=by have:=en.out;rw[hDT.out]at this;simp at this;omega
   have h5:=hbs.out.below bw;have h6:=h5;rw[hDT.out]at h6;obtain⟨g,off,rfl,y1,y2⟩:=h6.1.line;have hym:y∈bl:=by rw[hDT.out];simp
   have hyin:=h5.2 y hym;obtain⟨ya,yc,ey⟩:=An.form hyin;have hyl:=(hsm.out.2 y hym).1;have hyes:((D.length:Int)<(len:Int)):=by omega
   have i1:(0:Int)≤(D.length:Int):=by omega
   rw[ey]at y2;have HWW:∀ W,Below wr.heap.size wr W→Calls Tryz.prog 91 #[.slice ya y.ws.length yc,.slice xa nx xc] W fun e w'=>e=.returned (.bool (decide (y.ws=xw)))∧Below W.heap.size W w':=fun W hW=>N6 (by have:=An.below hyin hW;rw[ey]at this;exact this) (by rw[enx.out]at *;exact(An.below hxi.out bw).below hW) hyl (by rw[enx.out];exact hxs)
   have hDT':Hid (bl=(D++[y])++T):=by have:=hDT.out;show bl=_;rw[this];simp
   have hac':=Aa (show keyN ((D++[y]).map LAt.plain) xk=a+(if (y.key.toList == xk.toList)=true then 1 else 0)∧sameN ((D++[y]).map LAt.plain) ⟨xk,xw⟩=c+(if (y.key.toList == xk.toList && decide (y.ws=xw))=true then 1 else 0) from by
    rw[List.map_append,hac.out.1,hac.out.2];exact⟨Ab3 _ _ _,Zi _ _ _⟩)
   clear h5 h6 hyin ey hDT hac hym hyl hbs hxi hsm c2 d0 d1;generalize hKE:(y.key.toList == xk.toList)=KE at *;generalize hWE:decide (y.ws=xw)=WE at *;have eKE:=Aa hKE;clear hKE hWE;generalize hyk:y.key=yk at *;have eyk:=Aa hyk;clear hyk;generalize y.ws.length=ny at *;go_upto_region 6 with fail
   go_cut [24] from 16 to 24 (fun c wx=>c=.bool KE∧Below wr.heap.size wr wx)
   case first =>
    have v2:=fun p:Gr wr=>Ap e2 p
    have u0:=fun p:Gr wr=>Ap f0 p
    have w1:=fun p:Gr wr=>Ap y1 p
    have hk:=eKE.out;clear HWW hDT' hac' e2 f0 f1 y1 y2 eKE;refine Bf (by kernel_rfl) (by kernel_rfl) ?_;iterate 9 quiet_step (fail)
    refine wpQuiet_nil ?_;rintro _ ⟨⟨wq,bq⟩,rfl⟩;go_wp2_with fail
    go_meet;exact⟨by first | rfl | (rw[← hk];rfl) | simp[hk],bq⟩
   case rest =>
    obtain⟨wk,hwk⟩:∃ wk,wk=wc:=⟨_,rfl⟩;subst hwk;obtain⟨rfl,bk'⟩:=hcut;have BK:=bw.trans (bk'.mono bw.size);cases KE
    ·have hac2:=Aa (show a=keyN ((D++[y]).map LAt.plain) xk∧c=sameN ((D++[y]).map LAt.plain) ⟨xk,xw⟩ from by rw[hac'.out.1,hac'.out.2];exact⟨rfl,rfl⟩);clear hac' HWW e2 f0 f1 y1 y2;go_wp2;go_roundw;case rel=>exact⟨D++[y],T,a,c,by simp,rfl,rfl,by simp;omega,by simp;omega,by simp;omega,hDT',hac2,BK⟩
     case measure=>simp[intOf];omega
    ·have v2:=fun p:Gr wk=>Ap ((bk'.cell (World.block_lt_of_cell? wr _ e2)).trans e2) p
     have u1:=fun p:Gr wk=>Ap ((bk'.cell (World.block_lt_of_cell? wr _ f1)).trans f1) p
     have w2:=fun p:Gr wk=>Ap ((bk'.cell (World.block_lt_of_cell? wr _ y2)).trans y2) p
     have HW:∀ p:Gr wk,Calls Tryz.prog 91 #[.slice ya ny yc,.slice xa nx xc] p.u fun e w'=>e=.returned (.bool WE)∧Below p.u.heap.size p.u w':=fun p=>HWW p.u (bk'.trans (p.h.mono bk'.size))
     clear HWW e2 f0 f1 y1 y2;go_upto_region 8 with fail
     go_cut [35] from 27 to 35 (fun c wx=>c=.bool WE∧Below wk.heap.size wk wx)
     case first =>
      clear hac' hDT';refine Bf (by kernel_rfl) (by kernel_rfl) ?_;iterate 8 quiet_step (fail)
      quiet_step ((go_at_call 91;refine Ff (HW _)))
      refine wpQuiet_nil ?_;rintro _ ⟨⟨wq,bq⟩,rfl⟩;go_wp2_with fail
      go_meet;exact⟨rfl,bq⟩
     case rest =>
      obtain⟨wm,hwm⟩:∃ wm,wm=wc:=⟨_,rfl⟩;subst hwm;obtain⟨rfl,bm⟩:=hcut;have BM:=BK.trans (bm.mono BK.size);clear HW v2 u1 w2;cases WE
      ·have hac2:=Aa (show a+1=keyN ((D++[y]).map LAt.plain) xk∧c=sameN ((D++[y]).map LAt.plain) ⟨xk,xw⟩ from by rw[hac'.out.1,hac'.out.2];exact⟨rfl,rfl⟩);clear hac';go_wp2;go_roundw;case rel=>exact⟨D++[y],T,a+1,c,by simp,by go_num,rfl,by simp;omega,by simp;omega,by simp;omega,hDT',hac2,BM⟩
       case measure=>simp[intOf];omega
      ·have hac2:=Aa (show a+1=keyN ((D++[y]).map LAt.plain) xk∧c+1=sameN ((D++[y]).map LAt.plain) ⟨xk,xw⟩ from by rw[hac'.out.1,hac'.out.2];exact⟨rfl,rfl⟩);clear hac';go_wp2;go_roundw;case rel=>exact⟨D++[y],T,a+1,c+1,by simp,by go_num,by go_num,by simp;omega,by simp;omega,by simp;omega,hDT',hac2,BM⟩
       case measure=>simp[intOf];omega
variable {B:Nat}{L N:List MRow}{kind:ByteArray}
theorem A8.sub(h:A8 B w L)(hs:N.Sublist L):A8 B w N:=⟨fun r hr=>h.1 r (hs.subset hr),h.2.sublist hs⟩
def Agf(p:Plain)(P:Nat)(W:World)(e:Ending)(w':World):Prop:=∃(g m c:Nat) (key:ByteArray) (av:Option Addr) (nv cv:Nat) (ad:Option Addr) (cd:Nat),e=.returned (.slice (some ⟨g,0,none⟩) m c)∧((0:Int)≤(P:Int)∧(P:Int)<(m:Int))∧(w'.cell? ⟨g,P * 4,none⟩=some (.string key)∧w'.cell? ⟨g,P * 4+1,none⟩=some (.slice av nv cv)∧w'.cell? ⟨g,P * 4+2,none⟩=some (.bool p.2.2.1)∧w'.cell? ⟨g,P * 4+3,none⟩=some (.slice ad p.2.2.2.length cd))∧(w'.ownsRow W.heap.size 9 1 (.slice ad p.2.2.2.length cd) p.2.2.2.length (strs p.2.2.2))∧Below W.heap.size W w'
theorem Agg{key:ByteArray}{p:Plain}(hp:Cp (rulesOf kind) key=some p):∃ P:Nat,placeI (rulesOf kind) key=(P:Int)∧∀ W:World,Calls Tryz.prog 56 #[.string kind] W fun e w'=>Agf p P W e w':=by
 obtain⟨i,hi,hg,_⟩:=Ew hp;refine⟨i,hi,fun W=>(D5 kind W).mono ?_⟩;rintro e w' ⟨v,L,rfl,hpL,hrL,b7⟩;have hil:i<L.length:=by have:=(List.getElem?_eq_some_iff.1 hg).1;rw[← hpL,List.length_map]at this;exact this
 obtain⟨D7,r7,T7,rfl,hD7⟩:=Br L i hil;have hpl:r7.plain=p:=by
  rw[← hpL,← hD7]at hg;simpa using hg
 have hr7:=(show Gc w' v (D7++r7::T7) from hrL.rin).2 r7 (by simp);have hdef:=(Cm.rm hrL).defs;obtain⟨ar,cr,rfl,f1⟩:=Ai (show w'.ownsRow W.heap.size 54 4 v (D7++r7::T7).length ((D7++r7::T7).flatMap Ce.cells) from A8.head hrL);rcases f1 with f1 | ⟨g7,rfl⟩
 ·simp at f1
 have hc:=fun c hc=>(Cm.rm hrL).cell (D:=D7) (r:=r7) (T:=T7) c hc
 obtain⟨⟨av,nv,cv,ev⟩,_⟩:=hr7;obtain⟨ad,cd,ed,_⟩:=Ai hdef;have e1:r7.many=p.2.2.1:=by rw[← hpl];rfl
 have e2:r7.ds=p.2.2.2:=by rw[← hpl];rfl
 rw[e2]at hdef ed;rw[ed]at hdef;have k0:=hc 0 (by decide);have k1:=hc 1 (by decide);have k2:=hc 2 (by decide);have k3:=hc 3 (by decide);rw[hD7]at k0 k1 k2 k3;simp only[Ce.cells,List.getElem?_cons_zero,List.getElem?_cons_succ,ev,ed,e1,Nat.add_zero]at k0 k1 k2 k3;exact⟨g7,_,cr,r7.key,av,nv,cv,ad,cd,rfl,⟨by omega,by simp;omega⟩,⟨k0,k1,k2,k3⟩,hdef,b7⟩
end Go.Proofs.YtpdahhnjhggocaaGreatDoor
