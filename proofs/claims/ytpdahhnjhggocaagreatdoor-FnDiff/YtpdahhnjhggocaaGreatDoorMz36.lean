import Derived.Test.YtpdahhnjhggocaaGreatDoorMz35
import Derived.Deep.CutBlock
namespace Go.Proofs.YtpdahhnjhggocaaGreatDoor
open Go.RowKit
set_option maxHeartbeats 16000000
set_option maxRecDepth 100000
variable {w:World}{B p k kk d q:Nat}{v:Value}{bs:List BAt}
theorem Qs(w:World):An w (.slice none 0 0) 0 2 []:=⟨rfl,none,0,rfl,⟨Nat.le_refl _,Nat.zero_le _⟩,.inl rfl⟩
theorem Z0{w4:World}(hr:Rd B w4 p kk)(hk:kk≤k+d)(hw:w.grownBy w4 (some p))(hp:p<w.heap.size)(hs:w.heap.size+2≤w4.heap.size)(cs:Array Value):Gk d B p k w (.returned (.agg #[.slice (some ⟨w4.heap.size,0,none⟩) 1 1])) ((w4.alloc (.cells #[.string ⟨#[]⟩,.string ⟨#[]⟩,.slice none 0 0] 46)).setRow (w.heap.size+1) cs):=by
 have gs:=Bx (w4.alloc (.cells #[.string ⟨#[]⟩,.string ⟨#[]⟩,.slice none 0 0] 46)) (w.heap.size+1) cs;have xA:=(Below.refl w4.heap.size w4).alloc (Nat.le_refl _) (.cells #[.string ⟨#[]⟩,.string ⟨#[]⟩,.slice none 0 0] 46);have hrow:=Cj w4 #[.string ⟨#[]⟩,.string ⟨#[]⟩,.slice none 0 0] 46 3 rfl;refine⟨_,1,1,[⟨⟨#[]⟩,⟨#[]⟩,.slice none 0 0,[]⟩],kk,rfl,hk,?_,⟨?_,?_,?_,?_,fun i hi hne=>?_⟩,⟨?_,?_⟩,⟨⟨by simp,?_⟩,by simp⟩,fun q hq=>⟨?_,?_⟩⟩
 ·exact Bl.rd (hr.below xA) (Bl.of_grown (S:=[w.heap.size+1]) gs (fun q hq=>by cases hq;simp)) (fun i hi=>by rw[List.mem_singleton.1 hi];omega)
 ·exact gs.os.trans (xA.os.trans hw.os)
 ·exact gs.tape.trans (xA.tape.trans hw.tape)
 ·exact gs.output.trans (xA.output.trans hw.output)
 ·have:=gs.size;have:=xA.size;omega
 ·rw[gs.block i (by have:=xA.size;omega) (by intro e;cases e;omega),xA.block i (by omega)];exact hw.block i hi hne
 ·exact An.far hrow (.inr fun b off m c e=>by cases e;show w4.heap.size≠w.heap.size+1;omega) gs
 ·intro b hb;rw[List.mem_singleton.1 hb];exact⟨Qs _,by intro x hx;cases hx⟩
 ·intro b hb;rw[List.mem_singleton.1 hb];exact⟨by decide,by simp,by intro x hx;cases hx⟩
 ·exact .inr fun b off m c e=>by cases e;show w4.heap.size≠q;omega
 ·intro x hx;rw[List.mem_singleton.1 hx];exact⟨.inl rfl,by intro y hy;cases hy⟩
theorem As.apart(h:As B w v bs)(hq:w.heap.size≤q):Bk q v bs :=
 ⟨Cr.of_own h.row (fun e=>by have:=(h.row.lt q e).2;omega),fun x hx=>⟨Cr.of_own (h.lines x hx).row (fun e=>by have:=((h.lines x hx).row.lt q e).2;omega),fun y hy=>Cr.of_own ((h.lines x hx).words y hy) (fun e=>by have:=(((h.lines x hx).words y hy).lt q e).2;omega)⟩⟩
theorem Ahr(u:ByteArray)(h:u∈([⟨#[]⟩,⟨#[65]⟩,⟨#[122,122]⟩]:List ByteArray)):u.size≤1048576:=by
 simp only[List.mem_cons,List.not_mem_nil,or_false]at h;rcases h with rfl | rfl | rfl <;> decide
def Ahs(B p c X Y:Nat)(w1:World)(D:List BAt)(y:BAt)(kk:Nat)(W:World):Prop:=∃(T:List BAt) (g n cap kk':Nat) (bk bn:ByteArray) (a:Option Addr) (m cc:Nat) (ls:List LAt),kk'≤kk+80∧Im B p c X Y w1 D T y g n cap kk' bk bn (.slice a m cc) ls W
theorem Xv(B p k:Nat)(w:World)(h:Rd B w p k)(hk:k≤500000)(hin:Aw w v bs)(hl:bs.length≤60)(hs:∀ b∈bs,E4 b):Calls Tryz.prog 104 #[.pointer (some ⟨p,0,none⟩),.agg #[v]] w fun e w'=>Gk 100 B p k w e w':=by
 obtain⟨sa,sc,rfl⟩:=hin.1.form;have hp:=h.lt;have hc:=Di (w:=w) (cs:=#[.slice sa bs.length sc]) (ds:=#[.slice none 0 0]) (T:=25) (U:=25);have c0:=hc.1 0;simp only[List.getElem?_toArray,List.getElem?_cons_zero]at c0;clear hc;have G0:Below w.heap.size w ((w.alloc (.cells #[.slice sa bs.length sc] 25)).alloc (.cells #[.slice none 0 0] 25)):=((Below.refl _ _).alloc (Nat.le_refl _) _).alloc (by simp) _;have z1:=Al (w.alloc (.cells #[.slice sa bs.length sc] 25)) (.cells #[.slice none 0 0] 25);have s1:((w.alloc (.cells #[.slice sa bs.length sc] 25)).alloc (.cells #[.slice none 0 0] 25)).heap.size=w.heap.size+2:=by simp
 simp only[World.size_alloc]at z1;have hr1:=h.below G0;have G1w:=Bs G0 (some p);have z1H:=Aa z1;have HC:=Gq (hin.below G0) (Hv (by omega) hs);have HSM:=Aa hs;clear hin hs;generalize hsn:bs.length=sn at *;have esn:=Aa hsn;clear hsn;generalize hw1:(w.alloc (.cells #[.slice sa sn sc] 25)).alloc (.cells #[.slice none 0 0] 25)=w1 at *;go_enter Tryz.func104,Tryz.ntmps104;go_wp2_with (go_at_call 55;(try rw[hw1]);refine HC.mono ?_)
 first | rintro e w2 v2 rfl bs2 hp2 o2 b2 | rintro e w2 v2 bs2 rfl hp2 o2 b2 | rintro e w2 ⟨v2,bs2,rfl,hp2,o2,b2⟩
 have hsm2:=Aa (Ob HSM.out hp2);have hl2:bs2.length≤60:=by have:=congrArg List.length hp2;simp at this;have:=esn.out;omega
 obtain⟨xa,xc,rfl,hform⟩:=Ai o2.row;have hFm:=Aa hform;have hz2:=b2.size;have x3:=(Below.refl w2.heap.size w2).alloc (Nat.le_refl _) (.cells #[.slice xa bs2.length xc] 25);have x3b:=Al w2 (.cells #[.slice xa bs2.length xc] 25);have c3:=Ab x3b 0;simp only[List.getElem?_toArray,List.getElem?_cons_zero]at c3;have hr3:=(hr1.below b2).below x3;have O2:=Aa o2;have bw3:=b2.trans (x3.mono b2.size);have HPK:=Xq B p k bs2.length (w2.alloc (.cells #[.slice xa bs2.length xc] 25)) hr3 (by omega) (by omega);have z3s:(w2.alloc (.cells #[.slice xa bs2.length xc] 25)).heap.size=w2.heap.size+1:=by simp
 have z13:=(bw3.block (w.heap.size+1) (by omega)).trans z1;have G3:=Bs (G0.trans (bw3.mono G0.size)) (some p);have g13:=Bs bw3 (some p);clear HC o2 hp2 hform c0 z1 hr1 b2 hw1 x3;generalize hnx:bs2.length=nx at *;have enx:=Aa hnx;clear hnx;generalize hW3:w2.alloc (.cells #[.slice xa nx xc] 25)=W3 at *;go_wp2_with (go_at_call 44;(try rw[hW3]);refine HPK.mono ?_)
 rintro e W4 ⟨kx,hkx,rfl,hr4,hg4⟩;have hpx:p<w2.heap.size:=by omega
 have c4:=(hg4.cell_far ⟨w2.heap.size,0,none⟩ (by rw[← hW3];simp) (by intro e;cases e;exact absurd hpx (Nat.lt_irrefl _))).trans c3;have G4:=A1 G3 hg4;have g14:=A1 g13 hg4;have hz4:=hg4.size;have z14:=(hg4.block (w.heap.size+1) (by omega) (by intro e;cases e;omega)).trans z13;by_cases hx0:nx=0
 ·subst hx0;have HO:=Aa (Z0 (d:=100) (k:=k) hr4 (by omega) G4 hp (by omega) #[.slice (some ⟨W4.heap.size,0,none⟩) 1 1]);have z15:(W4.alloc (.cells #[.string ⟨#[]⟩,.string ⟨#[]⟩,.slice none 0 0] 46)).heap[w.heap.size+1]?=some (.cells #[.slice none 0 0] 25 (0,0)):=by rw[Cy _ _ _ (by omega)];exact z14
  clear HPK c3 x3b hr3 O2 hW3;go_wp2_with (with_reducible show wpList _ _ _ (Oper.mk _ (Op.store _ (Operand.tmp 4) _) _ _ _ _::_) _ _;refine wpList_store_row rfl 25 _ _ rfl (w.heap.size+1) #[.slice (some ⟨W4.heap.size,0,none⟩) 1 1] ?_ ?_ 25 _ z15 ?_ ?_ ?_ ?_)
  all_goals (first | rfl | kernel_rfl | exact A7 | skip)
  have z5:((W4.alloc (.cells #[.string ⟨#[]⟩,.string ⟨#[]⟩,.slice none 0 0] 46)).setRow (w.heap.size+1) #[.slice (some ⟨W4.heap.size,0,none⟩) 1 1]).heap[w.heap.size+1]?=some (.cells #[.slice (some ⟨W4.heap.size,0,none⟩) 1 1] 25 (0,0)):=setRow_heap _ _ _ _ _ _ z15;have y0:=Ab z5 0;simp only[List.getElem?_toArray,List.getElem?_cons_zero]at y0;generalize World.setRow _ _ _=W at HO y0 z5 ⊢;exact bodyPost_ret (v:=.agg #[.slice (some ⟨W4.heap.size,0,none⟩) 1 1]) (by simp[results,Tryz.results104,go_sem,y0]) rfl HO.out
 ·have hxn:((nx:Int) == 0)=false:=by rw[beq_eq_false_iff_ne];omega
  have hkl:kx<nx:=by
   rcases hkx with h1 | h1
   ·exact h1
   ·exact absurd h1.1 hx0
  obtain⟨g,rfl⟩:∃ g,xa=some ⟨g,0,none⟩:=by
   rcases hFm.out with h0 | h0
   ·exact absurd h0 hx0
   ·exact h0
  obtain⟨D,y,T,e2,hD⟩:=Br bs2 kx (by have:=enx.out;omega);have own3:=O2.out.below ((Below.refl w2.heap.size w2).alloc (Nat.le_refl _) (.cells #[.slice (some ⟨g,0,none⟩) nx xc] 25));rw[hW3]at own3;have own4:As w1.heap.size W4 (.slice (some ⟨g,0,none⟩) nx xc) bs2:=A8.other own3 hg4 (by omega);have hgX:g<w2.heap.size:=(O2.out.row.lt g rfl).2;have hgc:w1.heap.size≤g:=(O2.out.row.lt g rfl).1;have hlenD:(D++y::T).length=nx:=by rw[← e2];exact enx.out
  have own4':=own4;rw[e2]at own4';have br:=own4'.brow;have d0:=br.cell 0 (by decide);have d1:=br.cell 1 (by decide);have d2:=br.cell 2 (by decide);simp only[BAt.cells,List.getElem?_cons_zero,List.getElem?_cons_succ,Nat.add_zero,hD]at d0 d1 d2;have hfarX:=Aa (show ∀ x∈bs2,∀ q,w2.heap.size≤q→Aj q x.v x.ls from fun x hx q hq=>(O2.out.apart hq).2 x hx);have hfarC:=Aa (show ∀ x∈bs2,∀ q,q<w1.heap.size→Aj q x.v x.ls from fun x hx q hq=>(O2.out.far hq).2 x hx);have hfarG:=Aa (show ∀ x∈bs2,Aj g x.v x.ls from fun x hx=>(O2.out.brow.2 x hx).2 g rfl);have hym:y∈bs2:=by rw[e2];simp
  obtain⟨ya,yc,ey⟩:=(own4.lines y hym).lin.1.form;have hys:=hsm2.out y hym;have xb4:=(hg4.block w2.heap.size (by rw[← hW3];simp) (by intro e;cases e;exact absurd hpx (Nat.lt_irrefl _))).trans x3b;have E2:=Aa e2;have OWN4:=Aa own4;have i1:(0:Int)≤(kx:Int):=by omega
  have i2:(kx:Int)<(nx:Int):=by omega
  obtain⟨yk,yn,yv,yl⟩:=y;simp only at *;subst ey;have bY:=(Below.refl W4.heap.size W4).alloc (Nat.le_refl _) (.cells #[.string yk,.string yn,.slice ya yl.length yc] 46);have yb:=Al W4 (.cells #[.string yk,.string yn,.slice ya yl.length yc] 46);have q2:=Ab yb 2;simp only[List.getElem?_toArray,List.getElem?_cons_zero,List.getElem?_cons_succ]at q2;have hyl7:=hys.2.1;have HP2:=Xq B p (k+1) yl.length (W4.alloc (.cells #[.string yk,.string yn,.slice ya yl.length yc] 46)) (hr4.below bY) (by simp only at hyl7;omega) (by omega);have HYS:=Aa hys;have z5s:(W4.alloc (.cells #[.string yk,.string yn,.slice ya yl.length yc] 46)).heap.size=W4.heap.size+1:=by simp
  have hpW4:p<W4.heap.size:=by omega
  clear HPK own3 own4 own4' br hFm e2 hys c3 x3b hr3 hW3;generalize hnl:yl.length=nl at *;have enl:=Aa hnl;clear hnl;generalize hW5:W4.alloc (.cells #[.string yk,.string yn,.slice ya nl yc] 46)=W5 at *;go_wp2_with (go_at_call 44;(try rw[hW5]);refine HP2.mono ?_)
  rintro e W6 ⟨nI,hnI,rfl,hr6,hg6⟩;have HP3:=Bn B p (k+1+1) 9 W6 hr6 (by omega) (by omega) (by omega);clear HP2 d0 d1 d2 c4;go_wp2_with (go_at_call 44;refine HP3.mono ?_)
  rintro e W7 ⟨cI,hcI,rfl,hr7,hg7⟩;have g57:=A1 hg6 hg7;have hz57:=g57.size;have bYg:=Bs bY (some p);have OWN7:=Aa (show As w1.heap.size W7 (.slice (some ⟨g,0,none⟩) nx xc) (D++⟨yk,yn,.slice ya nl yc,yl⟩::T) from by
   rw[← E2.out];exact A8.other (OWN4.out.below bY) g57 (by omega))
  have hfarA:=Aa (show ∀ x∈bs2,∀ q∈[g,w2.heap.size,W4.heap.size],Aj q x.v x.ls from fun x hx q hq=>by
   simp only[List.mem_cons,List.not_mem_nil,or_false]at hq;rcases hq with rfl | rfl | rfl
   ·exact hfarG.out x hx
   ·exact hfarX.out x hx _ (Nat.le_refl _)
   ·exact hfarX.out x hx _ (by omega))
  have HJ:=Aa (show Im B p w1.heap.size w2.heap.size W4.heap.size w1 D T ⟨yk,yn,.slice ya nl yc,yl⟩ g nx xc (k+1+1+1) yk yn (.slice ya nl yc) yl W7 from
   ⟨hr7,A1 g14 (A1 bYg g57),by omega,rfl,(g57.block w2.heap.size (by omega) (by intro e;cases e;exact absurd hpx (Nat.lt_irrefl _))).trans ((bY.block w2.heap.size (by omega)).trans xb4),(g57.block W4.heap.size (by omega) (by intro e;cases e;exact absurd hpW4 (Nat.lt_irrefl _))).trans yb,by omega,by omega,by omega,by omega,by omega,by
     have:=OWN7.out.row;rw[hlenD]at this;exact this,hlenD,by omega,fun x hx=>⟨⟨(OWN7.out.lines x (by simp only[List.mem_append,List.mem_cons]at hx ⊢;rcases hx with hx | hx;exact .inl hx;exact .inr (.inr hx))).lin,hfarA.out x (by rw[E2.out];simp only[List.mem_append,List.mem_cons]at hx ⊢;rcases hx with hx | hx;exact .inl hx;exact .inr (.inr hx)),fun q hq=>hfarC.out x (by rw[E2.out];simp only[List.mem_append,List.mem_cons]at hx ⊢;rcases hx with hx | hx;exact .inl hx;exact .inr (.inr hx)) q hq⟩,(hsm2.out x (by rw[E2.out];simp only[List.mem_append,List.mem_cons]at hx ⊢;rcases hx with hx | hx;exact .inl hx;exact .inr (.inr hx))).x⟩,⟨⟨(OWN7.out.lines ⟨yk,yn,.slice ya nl yc,yl⟩ (by simp)).lin,hfarA.out _ hym,hfarC.out _ hym⟩,HYS.out.x⟩⟩)
  clear hr7 hg6 hg7 g57 hr6 hr4 bY yb q2 OWN4 xb4 hW5 HP3 z14 z13 bYg hfarC hfarG hfarX;have hcw:w1.heap.size=w.heap.size+2:=s1;generalize hX:w2.heap.size=X at *;generalize hY:W4.heap.size=Y at *;go_upto_block 0 with fail
  go_cut [] from 9 to 192 (fun wx=>Ahs B p w1.heap.size X Y w1 D ⟨yk,yn,.slice ya nl yc,yl⟩ (k+1+1+1) wx)
  case first =>
   have hJ:=HJ.out;have hpY:p<Y:=by omega
   rcases(show cI=0∨cI=1∨cI=2∨cI=3∨cI=4∨cI=5∨cI=6∨cI=7∨cI=8 by omega) with rfl | rfl | rfl | rfl | rfl | rfl | rfl | rfl | rfl
   ·have bt:=(Below.refl W7.heap.size W7).alloc (Nat.le_refl _) (.cells (([⟨#[]⟩,⟨#[110,111,110,101]⟩,⟨#[116,101,97,109]⟩]:List ByteArray).map Value.string).toArray 9);have HPx:=Bn B p (k+1+1+1) 3 _ (hJ.rd.below bt) (by omega) (by omega) (by omega);have HJ1:=Aa (hJ.below bt);have hp7:p<W7.heap.size:=hJ.rd.lt;clear hJ HJ OWN7;go_wp2_with (go_at_call 44;refine HPx.mono ?_)
    rintro e W8 ⟨z,hz,rfl,hr8,hg8⟩;obtain⟨u,hu,hcu⟩:=Pa W7 W8 [⟨#[]⟩,⟨#[110,111,110,101]⟩,⟨#[116,101,97,109]⟩] z p hz hg8 (by omega);have HJ8:=HJ1.out.grown hg8 hr8;have j0:=Ab HJ8.yb 0;have f0:=Ag HJ8.yb 0;simp only[List.getElem?_toArray,List.getElem?_cons_zero]at j0;have gS:W8.grownBy (W8.setCell ⟨Y,0,none⟩ (.string u)) (some Y):=⟨rfl,rfl,rfl,by simp,fun i _ hi=>heap_setCell_other W8 ⟨Y,0,none⟩ i _ (fun e=>hi (by simp[e]))⟩;have yS:(W8.setCell ⟨Y,0,none⟩ (.string u)).heap[Y]?=some (.cells #[.string u,.string yn,.slice ya nl yc] 46 (0,0)):=by rw[heap_setCell_same W8 Y 0 _ _ _ HJ8.yb];rfl
    have HJ9:=Aa (HJ8.head (bk':=u) (bn':=yn) yS HYS.out.x.1 gS);have z3:(z:Int)<3:=by omega
    have z0:(0:Int)≤(z:Int):=by omega
    clear HPx HJ1 HJ8 hr8 hg8 gS yS hu bt;go_wp2_with fail
    go_meet;exact⟨T,g,nx,xc,_,u,yn,ya,nl,yc,yl,by omega,HJ9.out⟩
   ·have bt:=(Below.refl W7.heap.size W7).alloc (Nat.le_refl _) (.cells (([⟨#[]⟩,⟨#[65]⟩,⟨#[122,122]⟩]:List ByteArray).map Value.string).toArray 9);have HPx:=Bn B p (k+1+1+1) 3 _ (hJ.rd.below bt) (by omega) (by omega) (by omega);have HJ1:=Aa (hJ.below bt);have hp7:p<W7.heap.size:=hJ.rd.lt;clear hJ HJ OWN7;go_wp2_with (go_at_call 44;refine HPx.mono ?_)
    rintro e W8 ⟨z,hz,rfl,hr8,hg8⟩;obtain⟨u,hu,hcu⟩:=Pa W7 W8 [⟨#[]⟩,⟨#[65]⟩,⟨#[122,122]⟩] z p hz hg8 (by omega);have HJ8:=HJ1.out.grown hg8 hr8;have j0:=Ab HJ8.yb 1;have f0:=Ag HJ8.yb 1;simp only[List.getElem?_toArray,List.getElem?_cons_zero,List.getElem?_cons_succ]at j0;have gS:W8.grownBy (W8.setCell ⟨Y,1,none⟩ (.string u)) (some Y):=⟨rfl,rfl,rfl,by simp,fun i _ hi=>heap_setCell_other W8 ⟨Y,1,none⟩ i _ (fun e=>hi (by simp[e]))⟩;have yS:(W8.setCell ⟨Y,1,none⟩ (.string u)).heap[Y]?=some (.cells #[.string yk,.string u,.slice ya nl yc] 46 (0,0)):=by rw[heap_setCell_same W8 Y 1 _ _ _ HJ8.yb];rfl
    have HJ9:=Aa (HJ8.head (bk':=yk) (bn':=u) yS (Ahr u hu) gS);have z3:(z:Int)<3:=by omega
    have z0:(0:Int)≤(z:Int):=by omega
    clear HPx HJ1 HJ8 hr8 hg8 gS yS hu bt;go_wp2_with fail
    go_meet;exact⟨T,g,nx,xc,_,yk,u,ya,nl,yc,yl,by omega,HJ9.out⟩
   ·have bt:=(Below.refl W7.heap.size W7).alloc (Nat.le_refl _) (.cells #[.string yk,.string yn,.slice ya nl yc] 46);have hlit:=Cj W7 #[.string yk,.string yn,.slice ya nl yc] 46 3 rfl;have HJ1:=hJ.below bt;have cx:=Ab hJ.xb 0;have cy0:=Ab hJ.yb 0;have cy1:=Ab hJ.yb 1;have cy2:=Ab hJ.yb 2;simp only[List.getElem?_toArray,List.getElem?_cons_zero,List.getElem?_cons_succ]at cx cy0 cy1 cy2;obtain⟨i0,hi,hi0,hi1,hi2⟩:=info_parts Cn;have hrow:=HJ1.row;have hmine:=HJ1.mine;have hxl:X<W7.heap.size:=(Array.getElem?_eq_some_iff.1 hJ.xb).1;have hyl':Y<W7.heap.size:=(Array.getElem?_eq_some_iff.1 hJ.yb).1;have hc7:w1.heap.size≤W7.heap.size:=hJ.gr.size;have HJ1H:=Aa HJ1;clear hJ HJ OWN7 HJ1;go_wp2_with (at_builtin;refine Be (by rfl) _ _ 23 (by rfl) w1.heap.size 46 i0 _ 3 56 Tryz.underlying23 hi hi0 hi1 hi2 rfl (by decide) _ nx _ (by rfl) hrow _ 1 _ (by rfl) hlit (by intro z hz;simp at hz;rcases hz with rfl | rfl | rfl <;> rfl) ?c3 ?c4 (by simp;omega) ?_)
    case c3=>unfold maxLen;omega
    case c4=>omega
    intro ao9 cap9 W9 own9 hg9 hv9;obtain⟨g9,rfl⟩:∃ g9,ao9=some ⟨g9,0,none⟩:=by
     obtain⟨a',c',e',h'⟩:=Ai own9;cases e'
     rcases h' with h' | h'
     ·omega
     ·exact h'
    have hg9':g9=g∨(W7.alloc (.cells #[.string yk,.string yn,.slice ya nl yc] 46)).heap.size≤g9:=by
     rcases hv9 with e | e
     ·left;exact Option.some.inj e
     ·right;rw[World.size_alloc];exact Nat.le_of_eq (Option.some.inj e).symm
    have hza:(W7.alloc (.cells #[.string yk,.string yn,.slice ya nl yc] 46)).heap.size=W7.heap.size+1:=by simp
    have HP:=Aa (HJ1H.out.push (z:=⟨yk,yn,.slice ya nl yc,yl⟩) (g':=g9) (cap':=cap9) hg9 (by simpa [hcw,BAt.cells] using own9) hmine hg9' (by rcases hg9' with e | e;rw[e];exact HJ1H.out.gX;omega) (by rcases hg9' with e | e;rw[e];exact HJ1H.out.gY;omega) (by omega))
    have hX9:=(hg9.block X (by omega) (by intro e;have:=Option.some.inj e;exact HJ1H.out.gX this.symm)).trans HJ1H.out.xb;have j0:=Ab hX9 0;have f0:=Ag hX9 0;simp only[List.getElem?_toArray,List.getElem?_cons_zero]at j0;clear own9 hg9 hv9 hrow hlit hmine HJ1H bt;go_wp2_with fail
    go_meet;exact⟨T++[⟨yk,yn,.slice ya nl yc,yl⟩],g9,nx+1,cap9,_,yk,yn,ya,nl,yc,yl,by omega,HP.out⟩
   ·have cy2:=Ab hJ.yb 2;simp only[List.getElem?_toArray,List.getElem?_cons_zero,List.getElem?_cons_succ]at cy2;by_cases hl0:nl=0
    ·have hl1:¬ (0:Int)<(nl:Int):=by omega
     clear hJ OWN7;go_wp2_with fail
     go_meet;exact⟨T,g,nx,xc,_,yk,yn,ya,nl,yc,yl,by omega,HJ.out⟩
    ·have hl1:(0:Int)<(nl:Int):=by omega
     have hI:nI<nl:=by
      rcases hnI with h | h
      ·exact h
      ·exact absurd h.1 hl0
     have i3:(0:Int)≤(nI:Int):=by omega
     have i4:(nI:Int)<(nl:Int):=by omega
     obtain⟨A,x,E,eyl,hA⟩:=Br yl nI (by have:=enl.out;omega);obtain⟨l,rfl⟩:∃ l,ya=some ⟨l,0,none⟩:=Lz (OWN7.out.lines ⟨yk,yn,.slice ya nl yc,yl⟩ (by simp)).row (fun h'=>hl0 (enl.out.symm.trans h'));have hyl:=enl.out;have HPK:=fun n (hn:n≤k+1+1+1) W (hW:Rd B W p n)=>Bn B p n 3 W hW (by omega) (by omega) (by omega)
     have HJJ:=Aa (show St B p w1.heap.size X Y w1 D T ⟨yk,yn,.slice (some ⟨l,0,none⟩) nl yc,A++x::E⟩ g nx xc yk yn (k+1+1+1) W7 from by rw[← eyl];exact⟨hJ,OWN7.out⟩);have hlen:(A++x::E).length=nl:=by rw[← eyl];exact hyl
     have HEY:=Aa eyl;have HLN:=Aa hlen;have HA:=Aa hA;clear hJ OWN7 eyl hlen hA hyl HJ;go_upto_region 20 with fail
     refine Vb HJJ.out (by omega) HA.out HLN.out (by kernel_rfl) (by kernel_rfl) (by kernel_rfl) (by kernel_rfl) ?_;intro v u k' W' a' ha' hk' hS;simp only[Aq,Fb,List.setIfInBounds_toArray,List.set_cons_zero,List.set_cons_succ]at ha';subst ha';rw[← HEY.out]at hS;have HS:=Aa hS;clear hS HJJ HPK;go_wp2_with fail
     go_meet;exact⟨T,g,nx,xc,_,yk,yn,some ⟨l,0,none⟩,nl,yc,_,by omega,HS.out⟩
   ·have cy2:=Ab hJ.yb 2;simp only[List.getElem?_toArray,List.getElem?_cons_zero,List.getElem?_cons_succ]at cy2;by_cases hl0:nl=0
    ·have hl1:¬ (0:Int)<(nl:Int):=by omega
     clear hJ OWN7;go_wp2_with fail
     go_meet;exact⟨T,g,nx,xc,_,yk,yn,ya,nl,yc,yl,by omega,HJ.out⟩
    ·have hl1:(0:Int)<(nl:Int):=by omega
     have hI:nI<nl:=by
      rcases hnI with h | h
      ·exact h
      ·exact absurd h.1 hl0
     have i3:(0:Int)≤(nI:Int):=by omega
     have i4:(nI:Int)<(nl:Int):=by omega
     obtain⟨A,⟨xk,xv,xw⟩,E,eyl,hA⟩:=Br yl nI (by have:=enl.out;omega);obtain⟨l,rfl⟩:∃ l,ya=some ⟨l,0,none⟩:=Lz (OWN7.out.lines ⟨yk,yn,.slice ya nl yc,yl⟩ (by simp)).row (fun h'=>hl0 (enl.out.symm.trans h'));have hyl:=enl.out;have HJJ:=Aa (show St B p w1.heap.size X Y w1 D T ⟨yk,yn,.slice (some ⟨l,0,none⟩) nl yc,A++⟨xk,xv,xw⟩::E⟩ g nx xc yk yn (k+1+1+1) W7 from by rw[← eyl];exact⟨hJ,OWN7.out⟩);obtain⟨xa,xcp,exv,hxf⟩:=Ai HJJ.out.2.bm.lines.words;simp only at exv hxf;subst exv;have cl:=HJJ.out.2.bm.lines.cell 1 (by decide);simp only[LAt.cells,List.getElem?_cons_zero,List.getElem?_cons_succ,hA]at cl;have HEY:=Aa eyl;have HA:=Aa hA;have hxwl:xw.length≤3:=by
      have:=(HYS.out.2.2 ⟨xk,.slice xa xw.length xcp,xw⟩ (by simp only;rw[eyl];simp)).1;exact this
     clear hJ OWN7 eyl hA hyl;by_cases hx0:xw.length=0
     ·have hx1:¬ (0:Int)<(xw.length:Int):=by omega
      generalize xw.length=nw at *;go_wp2_with fail
      go_meet;exact⟨T,g,nx,xc,_,yk,yn,some ⟨l,0,none⟩,nl,yc,yl,by omega,HJ.out⟩
     ·obtain⟨s,ss,rfl⟩:∃ s ss,xw=s::ss:=by
       cases xw with
       | nil=>exact absurd rfl hx0
       | cons s ss=>exact⟨s,ss,rfl⟩
      obtain⟨r,rfl⟩:∃ r,xa=some ⟨r,0,none⟩:=by
       rcases hxf with h | h
       ·exact absurd h hx0
       ·exact h
      have hnw1:(0:Int)<((s::ss).length:Int):=by omega
      obtain⟨nw,hnw⟩:∃ nw,(s::ss).length=nw:=⟨_,rfl⟩;rw[hnw]at HJJ cl hnw1;have HOd:=fun n (hn:n≤k+1+1+1) W (hW:Rd B W p n)=>Sr B p n W hW (by omega)
      have HNW:=Aa hnw;clear hnw hx0 hxf hxwl HJ;go_upto_region 23 with fail
      have hlen:(A++(⟨xk,.slice (some ⟨r,0,none⟩) nw xcp,s::ss⟩:LAt)::E).length=nl:=by
       have:=enl.out;rw[HEY.out]at this;simpa using this
      refine Vc HJJ.out (by omega) HA.out hlen HNW.out (by kernel_rfl) (by kernel_rfl) (by kernel_rfl) (by kernel_rfl) ?_;intro v t k' W' a' ha' hk' hS;simp only[Aq,Fb,List.setIfInBounds_toArray,List.set_cons_zero,List.set_cons_succ]at ha';subst ha';have HEY':=HEY.out;rw[HNW.out]at HEY';rw[← HEY']at hS;have HS:=Aa hS;clear hS HJJ HOd HEY';go_wp2_with fail
      go_meet;exact⟨T,g,nx,xc,_,yk,yn,some ⟨l,0,none⟩,nl,yc,_,by omega,HS.out⟩
   ·have cy2:=Ab hJ.yb 2;simp only[List.getElem?_toArray,List.getElem?_cons_zero,List.getElem?_cons_succ]at cy2;by_cases hl0:nl=0
    ·have hl1:¬ (0:Int)<(nl:Int):=by omega
     clear hJ OWN7;go_wp2_with fail
     go_meet;exact⟨T,g,nx,xc,_,yk,yn,ya,nl,yc,yl,by omega,HJ.out⟩
    ·have hl1:(0:Int)<(nl:Int):=by omega
     have hI:nI<nl:=by
      rcases hnI with h | h
      ·exact h
      ·exact absurd h.1 hl0
     have i3:(0:Int)≤(nI:Int):=by omega
     have i4:(nI:Int)<(nl:Int):=by omega
     obtain⟨A,⟨xk,xv,xw⟩,E,eyl,hA⟩:=Br yl nI (by have:=enl.out;omega);obtain⟨l,rfl⟩:∃ l,ya=some ⟨l,0,none⟩:=Lz (OWN7.out.lines ⟨yk,yn,.slice ya nl yc,yl⟩ (by simp)).row (fun h'=>hl0 (enl.out.symm.trans h'));have hyl:=enl.out;have hnl7:nl≤7:=by have:=HYS.out.2.1;simp only at this;omega
     have HJJ:=Aa (show St B p w1.heap.size X Y w1 D T ⟨yk,yn,.slice (some ⟨l,0,none⟩) nl yc,A++⟨xk,xv,xw⟩::E⟩ g nx xc yk yn (k+1+1+1) W7 from by rw[← eyl];exact⟨hJ,OWN7.out⟩);obtain⟨xa,xcp,exv,hxf⟩:=Ai HJJ.out.2.bm.lines.words;simp only at exv hxf;subst exv;have hlen:(A++(⟨xk,.slice xa xw.length xcp,xw⟩:LAt)::E).length=nl:=by rw[← eyl];exact hyl
     have HLN:=Aa hlen;have HA:=Aa hA;have HEY:=Aa eyl;have hc7:w1.heap.size≤W7.heap.size:=hJ.gr.size;clear hJ OWN7 eyl hA hyl HJ hlen;generalize hnw:xw.length=nw at *;go_upto_region 26 with fail
     refine Ve HJJ.out HA.out HLN.out (by omega) hc7 (by kernel_rfl) (by kernel_rfl) (by kernel_rfl) ?_;rintro v W' a' x' ha' ⟨xo,xm,xcc,rfl⟩ hS;simp only[Aq,Fb,List.setIfInBounds_toArray,List.set_cons_zero,List.set_cons_succ]at ha';subst ha';rw[← HEY.out]at hS;have HS:=Aa hS;clear hS HJJ;go_wp2_with fail
     go_meet;exact⟨T,g,nx,xc,_,yk,yn,xo,xm,xcc,_,by omega,HS.out⟩
   ·have cy2:=Ab hJ.yb 2;simp only[List.getElem?_toArray,List.getElem?_cons_zero,List.getElem?_cons_succ]at cy2;by_cases hl0:nl≤1
    ·have hl1:¬ (1:Int)<(nl:Int):=by omega
     clear hJ OWN7;go_wp2_with fail
     go_meet;exact⟨T,g,nx,xc,_,yk,yn,ya,nl,yc,yl,by omega,HJ.out⟩
    ·have hl1:(1:Int)<(nl:Int):=by omega
     have hl2:(0:Int)<(nl:Int):=by omega
     obtain⟨⟨k0,v0,u0⟩,⟨k1,v1,u1⟩,E,rfl⟩:∃ x0 x1 E,yl=x0::x1::E:=by
      have:=enl.out
      match yl,this with
      | [],h=>simp at h;omega
      | [_],h=>simp at h;omega
      | x0::x1::E,_=>exact⟨x0,x1,E,rfl⟩
     obtain⟨l,rfl⟩:∃ l,ya=some ⟨l,0,none⟩:=Lz (OWN7.out.lines ⟨yk,yn,.slice ya nl yc,⟨k0,v0,u0⟩::⟨k1,v1,u1⟩::E⟩ (by simp)).row (by simp);obtain⟨a0,c0,e0,_⟩:=Ai ((OWN7.out.lines ⟨yk,yn,.slice (some ⟨l,0,none⟩) nl yc,⟨k0,v0,u0⟩::⟨k1,v1,u1⟩::E⟩ (by simp)).words ⟨k0,v0,u0⟩ (by simp));obtain⟨a1,c1,e1,_⟩:=Ai ((OWN7.out.lines ⟨yk,yn,.slice (some ⟨l,0,none⟩) nl yc,⟨k0,v0,u0⟩::⟨k1,v1,u1⟩::E⟩ (by simp)).words ⟨k1,v1,u1⟩ (by simp));simp only at e0 e1;subst e0 e1;simp only at *;have hlen:=enl.out;generalize hn0:u0.length=n0 at *;generalize hn1:u1.length=n1 at *;have b8:=(Below.refl W7.heap.size W7).alloc (Nat.le_refl _) (.cells #[.string k0,.slice a0 n0 c0] 115);have own8:=OWN7.out.below b8;have J8:=hJ.below b8;have lrow7:=(OWN7.out.bm.lines).size hlen;have lrow8:=(own8.bm.lines).size hlen;have cx0:=lrow7.cellAt 0 (by omega);have cx1:=lrow7.cellAt 1 (by omega);have cx2:=lrow8.cellAt 2 (by omega);have cx3:=lrow8.cellAt 3 (by omega);simp only[LAt.cells,List.flatMap_cons,List.cons_append,List.nil_append,List.getElem?_cons_zero,List.getElem?_cons_succ]at cx0 cx1 cx2 cx3;have cy3:=Ab J8.yb 2;simp only[List.getElem?_toArray,List.getElem?_cons_zero,List.getElem?_cons_succ]at cy3;have HO8:=Aa own8;have HL7:=Aa ((OWN7.out.lines ⟨yk,yn,.slice (some ⟨l,0,none⟩) nl yc,⟨k0,.slice a0 n0 c0,u0⟩::⟨k1,.slice a1 n1 c1,u1⟩::E⟩ (by simp)).row.lt l rfl).2;have HJ8:=Aa J8;have HLN:=Aa hlen;clear hJ OWN7 own8 J8 lrow7 lrow8 hlen HJ;have hlY:l≠Y:=Hy (HJ8.out.mine.1.2.1 Y (by simp)).1 (by simp);have hl7:l<W7.heap.size:=HL7.out;have hbx:=Al W7 (.cells #[.string k0,.slice a0 n0 c0] 115);have hz8:(W7.alloc (.cells #[.string k0,.slice a0 n0 c0] 115)).heap.size=W7.heap.size+1:=by simp
     generalize hW8:W7.alloc (.cells #[.string k0,.slice a0 n0 c0] 115)=W8 at *;go_upto_region 30 with fail
     (try rw[hW8])
     refine Vd (x0:=⟨k0,.slice a0 n0 c0,u0⟩) (u1:=u1) ⟨HJ8.out,HO8.out⟩ HLN.out (by kernel_rfl) (by kernel_rfl) ?_;intro v W' a' ha' hg hb;simp only[Aq,Fb,List.setIfInBounds_toArray,List.set_cons_zero,List.set_cons_succ]at ha';subst ha';have HSW:=Aa (Im.swap (x0:=⟨k0,.slice a0 n0 c0,u0⟩) (x1:=⟨k1,.slice a1 n1 c1,u1⟩) hg.1 hg.2 HLN.out);obtain⟨ys,y1,y2,_⟩:=Ci [.string k1,.slice a1 n1 c1] 0 W' _ (hg.2.bm.lines.size HLN.out);have hY':Y<W'.heap.size:=(Array.getElem?_eq_some_iff.1 hg.1.yb).1;have yb':=(y2.block Y hY' (by intro e;cases e;exact hlY rfl)).trans hg.1.yb;have fb':=(y2.block W7.heap.size (by have:=hb.size;omega) (by intro e;cases e;omega)).trans ((hb.block W7.heap.size (by omega)).trans hbx);have z0:=Ab yb' 2;have z1:=Ab fb' 0;have z2:=Ab fb' 1;simp only[List.getElem?_toArray,List.getElem?_cons_zero,List.getElem?_cons_succ]at z0 z1 z2;obtain⟨q2,k2'⟩:=Option.isSome_iff_exists.1 (Cx y1 2 2 (by omega) 0 (by omega)).1;obtain⟨q3,k3'⟩:=Option.isSome_iff_exists.1 (Cx y1 2 2 (by omega) 1 (by omega)).1;have f2':=y1.frozenAt 2;have f3':=y1.frozenAt 3;clear hg y1 y2 yb' fb' HO8 HJ8 hW8;simp only[LAt.cells]at HSW;generalize W'.setCells l 0 [.string k1,.slice a1 n1 c1]=W9 at *;go_wp2_with fail
     go_meet;exact⟨T,g,nx,xc,_,yk,yn,some ⟨l,0,none⟩,nl,yc,_,by omega,HSW.out⟩
   ·have cy1:=Ab hJ.yb 1;simp only[List.getElem?_toArray,List.getElem?_cons_zero,List.getElem?_cons_succ]at cy1;have yb7:=hJ.yb;have y8:(W7.setRow Y #[.string ⟨#[98,101,114,116,104]⟩,.string yn,.slice none 0 0]).heap[Y]?=some (.cells #[.string ⟨#[98,101,114,116,104]⟩,.string yn,.slice none 0 0] 46 (0,0)):=setRow_heap _ _ _ _ _ _ yb7;have J8:=hJ.lay (bk':=⟨#[98,101,114,116,104]⟩) (bn':=yn) (bv':=.slice none 0 0) (ls':=[]) y8 (Bx W7 Y _) ⟨⟨⟨Qs _,by intro x hx;cases hx⟩,fun q _=>⟨.inl rfl,by intro x hx;cases hx⟩,fun q _=>⟨.inl rfl,by intro x hx;cases hx⟩⟩,HYS.out.x.1,by simp,by intro x hx;cases hx⟩;have HP2:=Bn B p (k+1+1+1) 2 _ J8.rd (by omega) (by omega) (by omega);have HJ8:=Aa J8;clear hJ HJ OWN7 J8 y8;go_wp2_with (with_reducible show wpList _ _ _ (Oper.mk _ (Op.store _ (Operand.tmp 7) _) _ _ _ _::_) _ _;refine wpList_store_row rfl 46 _ _ rfl Y #[.string ⟨#[98,101,114,116,104]⟩,.string yn,.slice none 0 0] ?_ ?_ 46 _ yb7 ?_ ?_ ?_ ?_)
    all_goals (first | rfl | kernel_rfl | exact⟨rfl,rfl,rfl⟩ | (obtain⟨i9,e9,_,s9,_⟩:=info_parts Cn;exact⟨i9,e9,s9⟩) | skip)
    generalize hW8:W7.setRow Y #[.string ⟨#[98,101,114,116,104]⟩,.string yn,.slice none 0 0]=W8 at *;go_wp2_with (go_at_call 44;refine HP2.mono ?_)
    rintro e W9 ⟨z,hz,rfl,hr9,hg9⟩;have J9:=HJ8.out.grown hg9 hr9;have HJ9:=Aa J9;obtain⟨m,hm10,hm11⟩:∃ m:Nat,(10:Int)+(z:Int)=(m:Int)∧m≤11:=⟨10+z,by omega,by omega⟩;have y9:=J9.yb;have hY9:Y<W9.heap.size:=(Array.getElem?_eq_some_iff.1 J9.yb).1;have hX9:X<W9.heap.size:=(Array.getElem?_eq_some_iff.1 J9.xb).1;have hg9l:g<W9.heap.size:=(J9.row.lt g rfl).2;obtain⟨i0,hi,hz0,hz1,hz2⟩:=info_parts Ez;have HYN:=Aa HYS.out.x.1;clear HP2 HJ8 hr9 hg9 J9 cy1 hW8;go_wp2;go_loopw [11] (fun i wr=>Aha W9.heap.size Y W9 yn i wr) (fun i _=>20 - (intOf i).toNat)
    case atStart=>exact⟨0,none,0,[],rfl,by omega,rfl,World.grownBy.refl _ _,y9,Xt _ _,by simp⟩
    case round =>
     obtain⟨j,a',cc,ls,rfl,hj11,hlj,hgr,hyb,how,hsm⟩:=hrel;by_cases hjm:j<m
     ·have hjm':(j:Int)<(m:Int):=by omega
      have cj:=Ab hyb 2;simp only[List.getElem?_toArray,List.getElem?_cons_zero,List.getElem?_cons_succ]at cj;have hcv:=Po wr (UInt8.ofNat (97+j));rw[Zy j (by omega)]at hcv;obtain⟨ds,hds,eds⟩:∃ ds:ByteArray,ds.size=1∧ds=⟨#[UInt8.ofNat (97+j)]⟩:=⟨_,rfl,rfl⟩;rw[← eds]at hcv;have hcat:¬ 9223372036854775807<1+ds.size:=by omega
      have fj:=Ag hyb 2;have HOW:=Aa how;have HGR:=Aa hgr;have HYB:=Aa hyb;have HSM':=Aa hsm;have HLJ:=Aa hlj;clear how hgr hyb hsm hlj eds HJ9;have hzr:W9.heap.size≤wr.heap.size:=HGR.out.size;obtain⟨nm,enm⟩:∃ nm:ByteArray,nm=⟨#[109]⟩++ds:=⟨_,rfl⟩;have hnm:nm.size=2:=by rw[enm,ByteArray.size_append,hds];rfl
      have B2:Below wr.heap.size wr ((wr.alloc (.cells #[.int .u8 (97+(j:Int))] 5)).alloc (.cells #[.string nm] 9)):=((Below.refl _ _).alloc (Nat.le_refl _) _).alloc (by simp) _;have hw2:((wr.alloc (.cells #[.int .u8 (97+(j:Int))] 5)).alloc (.cells #[.string nm] 9)).heap.size=wr.heap.size+2:=by simp
      have o2:=Acm wr (.cells #[.int .u8 (97+(j:Int))] 5) nm;have hlit:=Cj ((wr.alloc (.cells #[.int .u8 (97+(j:Int))] 5)).alloc (.cells #[.string nm] 9)) #[.string ⟨#[109,97,114,107]⟩,.slice (some ⟨wr.heap.size+1,0,none⟩) 1 1] 115 2 rfl;have B3:=(Below.refl ((wr.alloc (.cells #[.int .u8 (97+(j:Int))] 5)).alloc (.cells #[.string nm] 9)).heap.size ((wr.alloc (.cells #[.int .u8 (97+(j:Int))] 5)).alloc (.cells #[.string nm] 9))).alloc (Nat.le_refl _) (.cells #[.string ⟨#[109,97,114,107]⟩,.slice (some ⟨wr.heap.size+1,0,none⟩) 1 1] 115);have hrow:(((wr.alloc (.cells #[.int .u8 (97+(j:Int))] 5)).alloc (.cells #[.string nm] 9)).alloc (.cells #[.string ⟨#[109,97,114,107]⟩,.slice (some ⟨wr.heap.size+1,0,none⟩) 1 1] 115)).ownsRow W9.heap.size 115 2 (.slice a' j cc) j (ls.flatMap LAt.cells):=by
       have:=HOW.out.row;rw[HLJ.out]at this;exact Cd (Cd this B2) B3
      rw[hw2]at hlit;have hz3:W9.heap.size≤(((wr.alloc (.cells #[.int .u8 (97+(j:Int))] 5)).alloc (.cells #[.string nm] 9)).alloc (.cells #[.string ⟨#[109,97,114,107]⟩,.slice (some ⟨wr.heap.size+1,0,none⟩) 1 1] 115)).heap.size:=by simp;omega
      rw[enm]at hlit hrow hz3;go_wp2_with (at_builtin;refine Be (by rfl) _ _ 44 (by rfl) W9.heap.size 115 i0 _ 2 40 Tryz.underlying44 hi hz0 hz1 hz2 rfl (by decide) _ j _ (by rfl) hrow _ 1 _ (by rfl) hlit (by intro z hz;simp at hz;rcases hz with rfl | rfl <;> rfl) ?c3 ?c4 hz3 ?_)
      case c3=>unfold maxLen;omega
      case c4=>omega
      rw[← enm];intro ao9 cap9 W10 own9 hg10 hv9;have P3:=Lr (x:=⟨⟨#[109,97,114,107]⟩,.slice (some ⟨wr.heap.size+1,0,none⟩) 1 1,[nm.data.toList]⟩) HOW.out hzr o2 B2 (by rw[HLJ.out];exact own9) hg10 (by rcases hv9 with e | e;exact .inl e;exact .inr (by rw[e];simp))
      have yb10:=(P3.2.block Y hY9).trans HYB.out;have cy10:=Ab yb10 2;have fy10:=Ag yb10 2;simp only[List.getElem?_toArray,List.getElem?_cons_zero,List.getElem?_cons_succ]at cy10;have gS:=Hc W10 Y 2 (.slice ao9 (j+1) cap9);have HREL:=Aa (show Aha W9.heap.size Y W9 yn (.int .i64 ((j+1:Nat):Int)) (W10.setCell ⟨Y,2,none⟩ (.slice ao9 (j+1) cap9)) from by
       refine⟨j+1,ao9,cap9,_,rfl,by omega,?_,⟨gS.os.trans (P3.2.os.trans HGR.out.os),gS.tape.trans (P3.2.tape.trans HGR.out.tape),gS.output.trans (P3.2.output.trans HGR.out.output),?_,fun i hi' hne=>?_⟩,?_,P3.1.setCell ⟨Y,2,none⟩ hY9 _,?_⟩
       ·rw[List.length_append,HLJ.out];rfl
       ·have:=gS.size;have:=P3.2.size;omega
       ·rw[gS.block i (by have:=P3.2.size;omega) hne,P3.2.block i hi'];exact HGR.out.block i hi' hne
       ·rw[heap_setCell_same W10 Y 2 _ _ _ yb10];rfl
       ·intro x hx;rcases List.mem_append.1 hx with h | h
        ·exact HSM'.out x h
        ·rw[List.mem_singleton.1 h];refine⟨Nat.le_refl _,fun y hy=>?_⟩;rw[List.mem_singleton.1 hy];exact Nat.le_of_eq hnm)
      clear P3 yb10 gS own9 hg10 hv9 hrow hlit o2 B2 B3 hz3 HOW HGR HYB HSM' cj fj hcv;go_wp2_with fail
      go_roundw;case rel=>exact(by have:=HREL.out;simpa using this)
      case measure=>simp[intOf];omega
     ·have hjm':¬ (j:Int)<(m:Int):=by omega
      have JL:=HJ9.out.lay (bk':=⟨#[98,101,114,116,104]⟩) (bn':=yn) (bv':=.slice a' j cc) (ls':=ls) hyb hgr ⟨⟨how.lin,fun q hq=>how.farAll (by simp only[List.mem_cons,List.not_mem_nil,or_false]at hq;rcases hq with rfl | rfl | rfl <;> assumption),fun q hq=>how.farAll (by have:=HJ9.out.gr.size;have:=HJ9.out.cw;omega)⟩,HYN.out,by omega,fun x hx=>⟨Nat.le_trans (hsm x hx).1 (by decide),fun y hy=>Nat.le_trans ((hsm x hx).2 y hy) (by decide)⟩⟩
      have HJL:=Aa JL;clear JL how hgr hyb hsm hlj HJ9;go_wp2_with fail
      go_meet;exact⟨T,g,nx,xc,_,_,yn,a',j,cc,ls,by omega,HJL.out⟩
   ·have hnx60:nx≤60:=by have:=enx.out;omega
    clear hJ OWN7;go_wp2;go_loopw [12] (fun i wr=>Ag9 B p w1.heap.size X Y w1 D ⟨yk,yn,.slice ya nl yc,yl⟩ nx (k+1+1+1) yk yn (.slice ya nl yc) yl i wr) (fun i _=>70 - (intOf i).toNat)
    case atStart=>exact⟨0,T,g,xc,_,rfl,by omega,Nat.le_refl _,HJ.out⟩
    case round =>
     obtain⟨j,T',g',cap',kk',rfl,hj61,hkk',J⟩:=hrel;have HJJ:=Aa J;have HPK:=fun n (hn:n≤k+80) W (hW:Rd B W p n)=>Bn B p n 2 W hW (by omega) (by omega) (by omega)
     clear J HJ;go_upto_region 9 with fail
     refine Xu (fun kk W=>Im B p w1.heap.size X Y w1 D T' ⟨yk,yn,.slice ya nl yc,yl⟩ g' (nx+j) cap' kk yk yn (.slice ya nl yc) yl W) B (fun _ _ h=>h.rd) (fun _ _ h=>by have:=Ab h.xb 0;simpa using this) (fun _ _ _ _ h hg hr=>h.grown hg hr) (fun _ _ h=>h.below (Below.refl _ _).drew) HJJ.out (by omega) (by omega) (by kernel_rfl) (by kernel_rfl) (by kernel_rfl) ?_;intro v b k' W' a' ha' e6 hb hk' J';simp only[Aq,Fb,List.setIfInBounds_toArray,List.set_cons_zero,List.set_cons_succ,e6]at ha';subst ha';have HJ':=Aa J';cases b
     ·clear J' HJJ HPK hb e6;go_wp2_with fail
      go_meet;exact⟨T',g',nx+j,cap',k',yk,yn,ya,nl,yc,yl,by omega,HJ'.out⟩
     ·have hn60:=hb rfl;have cX:=Ab J'.xb 0;have fX:=Ag J'.xb 0;simp only[List.getElem?_toArray,List.getElem?_cons_zero]at cX;clear J' HJJ HPK hb e6;have hj60:j≤60:=by omega
      have hcv:=Aeq W' (UInt8.ofNat (97+j / 26)) (UInt8.ofNat (97+j % 26));rw[Zy (j / 26) (by omega),Zy (j % 26) (by omega),show ((j / 26:Nat):Int)=(j:Int) / 26 from by omega,show ((j % 26:Nat):Int)=(j:Int) % 26 from by omega]at hcv;obtain⟨ds,hds,eds⟩:∃ ds:ByteArray,ds.size=2∧ds=⟨#[UInt8.ofNat (97+j / 26),UInt8.ofNat (97+j % 26)]⟩:=⟨_,rfl,rfl⟩;rw[← eds]at hcv;have hcat:¬ 9223372036854775807<1+ds.size:=by omega
      obtain⟨nm,enm⟩:∃ nm:ByteArray,nm=⟨#[116]⟩++ds:=⟨_,rfl⟩;have hnm:nm.size=3:=by rw[enm,ByteArray.size_append,hds];rfl
      obtain⟨i0,hi,hi0,hi1,hi2⟩:=info_parts Cn;have bt:Below W'.heap.size W' ((W'.alloc (.cells #[.int .u8 (97+(j:Int) / 26),.int .u8 (97+(j:Int) % 26)] 5)).alloc (.cells #[.string ⟨#[116,101,97,109]⟩,.string nm,.slice none 0 0] 46)):=((Below.refl _ _).alloc (Nat.le_refl _) _).alloc (by simp) _;have hlit:=Cj (W'.alloc (.cells #[.int .u8 (97+(j:Int) / 26),.int .u8 (97+(j:Int) % 26)] 5)) #[.string ⟨#[116,101,97,109]⟩,.string nm,.slice none 0 0] 46 3 rfl;rw[World.size_alloc]at hlit;have HJ1:=HJ'.out.below bt;have hrow:=HJ1.row;have hza:((W'.alloc (.cells #[.int .u8 (97+(j:Int) / 26),.int .u8 (97+(j:Int) % 26)] 5)).alloc (.cells #[.string ⟨#[116,101,97,109]⟩,.string nm,.slice none 0 0] 46)).heap.size=W'.heap.size+2:=by simp
      have hc7:w1.heap.size≤W'.heap.size:=HJ'.out.gr.size;have hxl:X<W'.heap.size:=(Array.getElem?_eq_some_iff.1 HJ'.out.xb).1;have hyl':Y<W'.heap.size:=(Array.getElem?_eq_some_iff.1 HJ'.out.yb).1;have hz3:w1.heap.size≤((W'.alloc (.cells #[.int .u8 (97+(j:Int) / 26),.int .u8 (97+(j:Int) % 26)] 5)).alloc (.cells #[.string ⟨#[116,101,97,109]⟩,.string nm,.slice none 0 0] 46)).heap.size:=by omega
      have HJ1H:=Aa HJ1;have ENM:=Aa enm;rw[enm]at hlit hrow hz3;clear HJ1 bt eds enm;generalize hnn:nx+j=nn at *;go_wp2_with (at_builtin;refine Be (by rfl) _ _ 23 (by rfl) w1.heap.size 46 i0 _ 3 56 Tryz.underlying23 hi hi0 hi1 hi2 rfl (by decide) _ nn _ (by rfl) hrow _ 1 _ (by rfl) hlit (by intro z hz;simp at hz;rcases hz with rfl | rfl | rfl <;> rfl) ?c3 ?c4 hz3 ?_)
      case c3=>unfold maxLen;omega
      case c4=>omega
      rw[← ENM.out];intro ao9 cap9 W9 own9 hg9 hv9;obtain⟨g9,rfl⟩:∃ g9,ao9=some ⟨g9,0,none⟩:=Lz own9 (by omega);have hg9':g9=g'∨((W'.alloc (.cells #[.int .u8 (97+(j:Int) / 26),.int .u8 (97+(j:Int) % 26)] 5)).alloc (.cells #[.string ⟨#[116,101,97,109]⟩,.string nm,.slice none 0 0] 46)).heap.size≤g9:=by
       rcases hv9 with e | e
       ·left;exact Option.some.inj e
       ·right;rw[hza];exact Nat.le_of_eq (Option.some.inj e).symm
      have HP:=Aa (HJ1H.out.push (z:=⟨⟨#[116,101,97,109]⟩,nm,.slice none 0 0,[]⟩) (g':=g9) (cap':=cap9) hg9 (by simpa [hcw,BAt.cells] using own9) ⟨⟨⟨Qs _,by intro x hx;cases hx⟩,fun q _=>⟨.inl rfl,by intro x hx;cases hx⟩,fun q _=>⟨.inl rfl,by intro x hx;cases hx⟩⟩,by simp only;omega,by simp,by intro x hx;cases hx⟩ hg9' (by rcases hg9' with e | e;rw[e];exact HJ1H.out.gX;omega) (by rcases hg9' with e | e;rw[e];exact HJ1H.out.gY;omega) (by omega))
      have hX9:=(hg9.block X (by omega) (by intro e;have:=Option.some.inj e;exact HJ1H.out.gX this.symm)).trans HJ1H.out.xb;have j0:=Ab hX9 0;have f0:=Ag hX9 0;simp only[List.getElem?_toArray,List.getElem?_cons_zero]at j0;have HREL:=Aa (show Ag9 B p w1.heap.size X Y w1 D ⟨yk,yn,.slice ya nl yc,yl⟩ nx (k+1+1+1) yk yn (.slice ya nl yc) yl (.int .i64 ((j+1:Nat):Int)) (W9.setCell ⟨X,0,none⟩ (.slice (some ⟨g9,0,none⟩) (nn+1) cap9)) from⟨j+1,_,g9,cap9,k',rfl,by omega,by omega,by rw[show nx+(j+1)=nn+1 by omega];exact HP.out⟩);clear own9 hg9 hv9 hrow hlit HJ1H HP hX9 hz3 hza hcv cX fX;go_wp2_with fail
      go_roundw;case rel=>exact(by have:=HREL.out;simpa using this)
      case measure=>simp[intOf];omega
  case rest =>
   obtain⟨T',g',n',cap',kk',bk,bn,a',m',cc',ls',hkk,J⟩:=hcut;obtain⟨wf,hwf⟩:∃ wf,wf=wc:=⟨_,rfl⟩;subst hwf;have HO:=J.out (d:=100) (w:=w) (k:=k) hcw G1w (by omega) hp #[.slice (some ⟨g',0,none⟩) n' cap'];have cx:=Ab J.xb 0;have cy0:=Ab J.yb 0;have cy1:=Ab J.yb 1;have cy2:=Ab J.yb 2;simp only[List.getElem?_toArray,List.getElem?_cons_zero,List.getElem?_cons_succ]at cx cy0 cy1 cy2;have hDk:D.length=kx:=hD;rw[hDk]at HO;have hkn:(kx:Int)<(n':Int):=by
    have:=J.len;simp at this;omega
   have zr:=J.gr.block (w.heap.size+1) (by omega) (by intro e;cases e;omega);have hth:=HO.2.2.1;have zX:=HO.2.1.trans J.xb;have zR:=HO.2.2.2.trans (zr.trans z1H.out);have HOH:=Aa HO.1;have hrow:=J.row;obtain⟨u0,k1⟩:=Option.isSome_iff_exists.1 (hth 0 (by omega)).1;have k2:=(hth 0 (by omega)).2;have hs0:=(hrow.stored (kx * 3) (.string bk)).1;obtain⟨u1,k3⟩:=Option.isSome_iff_exists.1 (Cx hs0 (kx * 3) 3 (by omega) 1 (by omega)).1;have k4:=hs0.frozenAt (kx * 3+1);have hs1:=(hs0.stored (kx * 3+1) (.string bn)).1;obtain⟨u2,k5⟩:=Option.isSome_iff_exists.1 (Cx hs1 (kx * 3) 3 (by omega) 2 (by omega)).1;have k6:=hs1.frozenAt (kx * 3+2);rw[Nat.add_zero]at k1 k2;have cx2:((((wf.setCell ⟨g',kx * 3,none⟩ (.string bk)).setCell ⟨g',kx * 3+1,none⟩ (.string bn)).setCell ⟨g',kx * 3+2,none⟩ (.slice a' m' cc')).cell? ⟨X,0,none⟩)=some (.slice (some ⟨g',0,none⟩) n' cap'):=(Ab (w:=wf.setCells g' (kx * 3) [.string bk,.string bn,.slice a' m' cc']) zX 0);have zR2:(((wf.setCell ⟨g',kx * 3,none⟩ (.string bk)).setCell ⟨g',kx * 3+1,none⟩ (.string bn)).setCell ⟨g',kx * 3+2,none⟩ (.slice a' m' cc')).heap[w.heap.size+1]?=some (.cells #[.slice none 0 0] 25 (0,0)):=zR;clear hrow hs0 hs1;clear HO J HJ OWN7;go_wp2_with (with_reducible show wpList _ _ _ (Oper.mk _ (Op.store _ (Operand.tmp 4) _) _ _ _ _::_) _ _;refine wpList_store_row rfl 25 (Operand.tmp 4) (Operand.tmp 198) rfl (w.heap.size+1) #[.slice (some ⟨g',0,none⟩) n' cap'] ?_ ?_ 25 _ zR2 ?_ ?_ ?_ ?_)
   all_goals (first | rfl | kernel_rfl | exact A7 | skip)
   have z5:(World.setRow (((wf.setCell ⟨g',kx * 3,none⟩ (.string bk)).setCell ⟨g',kx * 3+1,none⟩ (.string bn)).setCell ⟨g',kx * 3+2,none⟩ (.slice a' m' cc')) (w.heap.size+1) #[.slice (some ⟨g',0,none⟩) n' cap']).heap[w.heap.size+1]?=some (.cells #[.slice (some ⟨g',0,none⟩) n' cap'] 25 (0,0)):=setRow_heap _ _ _ _ _ _ zR2;have y0:=Ab z5 0;simp only[List.getElem?_toArray,List.getElem?_cons_zero]at y0;have HO2:=HOH.out;clear HOH cx2 k1 k2 k3 k4 k5 k6 zR2 hth zX zR;generalize hWW:World.setRow (((wf.setCell ⟨g',kx * 3,none⟩ (.string bk)).setCell ⟨g',kx * 3+1,none⟩ (.string bn)).setCell ⟨g',kx * 3+2,none⟩ (.slice a' m' cc')) (w.heap.size+1) #[.slice (some ⟨g',0,none⟩) n' cap']=WW at y0 z5 ⊢;have HO3:Gk 100 B p k w (.returned (.agg #[.slice (some ⟨g',0,none⟩) n' cap'])) WW:=by rw[← hWW];exact HO2
   clear HO2 hWW;exact bodyPost_ret (v:=.agg #[.slice (some ⟨g',0,none⟩) n' cap']) (by simp[results,Tryz.results104,go_sem,y0]) rfl HO3
variable {n c:Nat}{W W':World}
theorem Gk.ret{d' k0:Nat}{a:Option Addr}(h:Gk d B p k0 W (.returned (.agg #[.slice a n c])) W')(hw:w.grownBy W (some p))(hz:w.heap.size<W.heap.size)(hp:p<w.heap.size)(hk:k0+d≤k+d')(cs:Array Value):Gk d' B p k w (.returned (.agg #[.slice a n c])) (W'.setRow w.heap.size cs):=by
 obtain⟨a',n',c',bs,k',he,hk',hr,hg,hin,hs,hf⟩:=h;cases he
 have gs:=Bx W' w.heap.size cs;have hgz:=hg.size;refine⟨a,n,c,bs,k',rfl,by omega,Bl.rd hr (Bl.of_grown (S:=[w.heap.size]) gs (fun q hq=>by cases hq;simp)) (fun i hi=>by rw[List.mem_singleton.1 hi];exact hp),⟨gs.os.trans (hg.os.trans hw.os),gs.tape.trans (hg.tape.trans hw.tape),gs.output.trans (hg.output.trans hw.output),?_,fun i hi hne=>?_⟩,hin.far (hf _ hz) gs,hs,fun q hq=>hf q (by omega)⟩
 ·have:=gs.size;omega
 ·rw[gs.block i (by omega) (by intro e;cases e;omega),hg.block i (by omega) hne];exact hw.block i hi hne
theorem Nv(B p k:Nat)(w:World)(h:Rd B w p k)(hk:k≤400000):Calls Tryz.prog 43 #[.pointer (some ⟨p,0,none⟩)] w fun e w'=>Gk 800 B p k w e w':=by
 have hp:=h.lt;have hr1:Rd B (w.alloc (.cells #[.slice none 0 0] 25)) p k:=h.below ((Below.refl _ _).alloc (Nat.le_refl _) _);have G1:w.grownBy (w.alloc (.cells #[.slice none 0 0] 25)) (some p):=Dk (World.grownBy_alloc _ _ _) _;have z1:=Al w (.cells #[.slice none 0 0] 25);have s1:(w.alloc (.cells #[.slice none 0 0] 25)).heap.size=w.heap.size+1:=by simp
 generalize hw1:w.alloc (.cells #[.slice none 0 0] 25)=w1 at *;have HD:=Zx B p k w1 hr1 (by omega);go_enter Tryz.func43,Tryz.ntmps43;go_wp2_with (go_at_call 78;(try rw[hw1]);refine HD.mono ?_)
 rintro e w2 ⟨v,bs,k2,rfl,hk2,hr2,hg2,ho,hl,hs⟩;obtain⟨a,c,rfl,_⟩:=Ai ho.row;have bx:=(Below.refl w2.heap.size w2).alloc (Nat.le_refl _) (.cells #[.slice a bs.length c] 25);have xb:=Al w2 (.cells #[.slice a bs.length c] 25);have hr3:=hr2.below bx;have HPK:=Bn B p k2 16 _ hr3 (by omega) (by omega) (by omega);have HOW:=Aa (ho.below bx);have HSM:=Aa hs;have hg2z:=hg2.size;have hg3:=A1 hg2 (Bs bx (some p));clear HD ho hs hr2 hr3 hw1;generalize hnl:bs.length=nl at *;have enl:=Aa hnl;clear hnl;generalize hw3:w2.alloc (.cells #[.slice a nl c] 25)=w3 at *;go_wp2_with (go_at_call 44;(try rw[hw3]);refine HPK.mono ?_)
 rintro e w4 ⟨y,hy,rfl,hr4,hg4⟩;have hX4:=(hg4.block w2.heap.size (by rw[← hw3];simp) (by intro e;cases e;omega)).trans xb;have cX:=Ab hX4 0;simp only[List.getElem?_toArray,List.getElem?_cons_zero]at cX;have OW4:=Aa (show As w1.heap.size w4 (.slice a nl c) bs from A8.other HOW.out hg4 (by omega));have hg14:=A1 hg3 hg4;have hz14:=hg14.size;have z4:=(hg14.block w.heap.size (by omega) (by intro e;cases e;omega)).trans z1;clear HPK HOW hX4 xb hg4 hw3 hg3 bx;by_cases hy0:y=0
 ·subst hy0;have HSP:=Xv B p (k2+1) w4 hr4 (by omega) OW4.out.bin (by have:=enl.out;omega) HSM.out.1;clear OW4 HSM;go_wp2_with (go_at_call 104;refine HSP.mono ?_)
  rintro e w5 hsp;have hspH:=Aa hsp;obtain⟨a5,n5,c5,bs5,k5,rfl,hk5,hr5,hg5,hin5,hs5,hf5⟩:=hsp;have z5:=(hg5.block w.heap.size (by omega) (by intro e;cases e;omega)).trans z4;have HO:=Aa (hspH.out.ret (w:=w) (k:=k) (d':=800) (A1 G1 hg14) (by omega) hp (by omega) #[.slice a5 n5 c5]);clear HSP hspH hr5 hg5 hin5 hs5 hf5;go_wp2_with (with_reducible show wpList _ _ _ (Oper.mk _ (Op.store _ (Operand.tmp 2) _) _ _ _ _::_) _ _;refine wpList_store_row rfl 25 _ _ rfl w.heap.size #[.slice a5 n5 c5] ?_ ?_ 25 _ z5 ?_ ?_ ?_ ?_)
  all_goals (first | rfl | kernel_rfl | exact A7 | skip)
  have z6:(w5.setRow w.heap.size #[.slice a5 n5 c5]).heap[w.heap.size]?=some (.cells #[.slice a5 n5 c5] 25 (0,0)):=setRow_heap _ _ _ _ _ _ z5;have y0:=Ab z6 0;simp only[List.getElem?_toArray,List.getElem?_cons_zero]at y0;generalize w5.setRow w.heap.size #[.slice a5 n5 c5]=W at HO y0 z6 ⊢;exact bodyPost_ret (v:=.agg #[.slice a5 n5 c5]) (by simp[results,Tryz.results43,go_sem,y0]) rfl HO.out
 ·have hyn:((y:Int) == 0)=false:=by rw[beq_eq_false_iff_ne];omega
  have HS4:Gk 601 B p k w1 (.returned (.agg #[.slice a nl c])) w4:=⟨a,nl,c,bs,k2+1,rfl,by omega,hr4,hg14,OW4.out.bin,⟨Hv (by have:=enl.out;omega) HSM.out.1,by have:=enl.out;omega⟩,fun q hq=>OW4.out.far hq⟩;have HO:=Aa (HS4.ret (w:=w) (k:=k) (d':=800) G1 (by omega) hp (by omega) #[.slice a nl c]);clear OW4 HSM HS4;go_wp2_with (with_reducible show wpList _ _ _ (Oper.mk _ (Op.store _ (Operand.tmp 2) _) _ _ _ _::_) _ _;refine wpList_store_row rfl 25 _ _ rfl w.heap.size #[.slice a nl c] ?_ ?_ 25 _ z4 ?_ ?_ ?_ ?_)
  all_goals (first | rfl | kernel_rfl | exact A7 | skip)
  have z6:(w4.setRow w.heap.size #[.slice a nl c]).heap[w.heap.size]?=some (.cells #[.slice a nl c] 25 (0,0)):=setRow_heap _ _ _ _ _ _ z4;have y0:=Ab z6 0;simp only[List.getElem?_toArray,List.getElem?_cons_zero]at y0;generalize w4.setRow w.heap.size #[.slice a nl c]=W at HO y0 z6 ⊢;exact bodyPost_ret (v:=.agg #[.slice a nl c]) (by simp[results,Tryz.results43,go_sem,y0]) rfl HO.out
end Go.Proofs.YtpdahhnjhggocaaGreatDoor
