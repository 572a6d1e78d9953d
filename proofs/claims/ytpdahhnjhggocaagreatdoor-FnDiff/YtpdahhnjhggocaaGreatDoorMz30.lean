import Derived.Test.YtpdahhnjhggocaaGreatDoorMz23
import Derived.Test.YtpdahhnjhggocaaGreatDoorMz28
namespace Go.Proofs.YtpdahhnjhggocaaGreatDoor
open Go.RowKit
set_option maxHeartbeats 16000000
set_option maxRecDepth 100000
variable {va vb:Value}{w:World}
open Classical in
noncomputable def Zd(P Q:List PLine):Bool:=decide (P=Q)
open Classical in
theorem Ab0{P Q:List PLine}(h:P=Q):Zd P Q=true:=decide_eq_true h
open Classical in
theorem Qf{P Q:List PLine}(h:P≠Q):Zd P Q=false:=decide_eq_false h
theorem Sj{a b:ByteArray}(h:a.toList=b.toList):a=b:=by
 rw[ByteArray.toList_eq,ByteArray.toList_eq]at h;exact ByteArray.ext (Array.toList_inj.1 h)
theorem Ady{x y:LAt}(h:¬ (x.key.toList=y.key.toList∧x.ws=y.ws)):x.plain≠y.plain:=fun e=>h ⟨congrArg (fun p:PLine=>p.key.toList) e,congrArg PLine.ws e⟩
theorem Adz{x y:LAt}(h:x.key.toList=y.key.toList)(h2:x.ws=y.ws):x.plain=y.plain:=by
 show (⟨x.key,x.ws⟩:PLine)=⟨y.key,y.ws⟩
 rw[Sj h,h2]
theorem Ze{xs ys:List LAt}(h1:Ah w va xs)(h2:Ah w vb ys)(s1:Ae xs)(s2:Ae ys):Calls Tryz.prog 159 #[va,vb] w fun e w'=>e=.returned (.bool (Zd (xs.map LAt.plain) (ys.map LAt.plain)))∧Below w.heap.size w w':=by
 obtain⟨ao,ca,rfl⟩:=h1.1.form;obtain⟨bo,cb,rfl⟩:=h2.1.form;by_cases hl:xs.length=ys.length
 ·have EN:=Aa hl;have H1:=Aa h1;have H2:=Aa h2;have S1:=Aa s1;have S2:=Aa s2;have hn2:xs.length≤1048576:=s1.1;rw[← hl];clear h1 h2 s1 s2 hl;generalize hn:xs.length=n at *;have en:=Aa hn;clear hn;have hnn:((n:Int) != (n:Int))=false:=by simp
  go_enter Tryz.func159,Tryz.ntmps159;go_wp2;go_loopw [5] (fun i wr=>∃ j:Nat,i=.int .i64 (j:Int)∧j≤n∧Hid ((xs.take j).map LAt.plain=(ys.take j).map LAt.plain)∧Below w.heap.size w wr) (fun i _=>n - (intOf i).toNat)
  case atStart=>exact⟨0,rfl,by omega,Aa (by simp),Below.refl _ _⟩
  case round =>
   obtain⟨j,rfl,hj,hA,bw⟩:=hrel;by_cases hlt:j<n
   ·obtain⟨D,x,T,e1,hD⟩:=Br xs j (by have:=en.out;omega);obtain⟨D',y,T',e2,hD'⟩:=Br ys j (by have:=EN.out;have:=en.out;omega);have hx:=H1.out.below bw;have hy:=H2.out.below bw;have hxm:x∈xs:=by rw[e1];simp
    have hym:y∈ys:=by rw[e2];simp
    have hxr:=hx.1;have hyr:=hy.1;rw[e1]at hxr;rw[e2]at hyr;obtain⟨g,off,rfl,c1,c2⟩:=hxr.line;obtain⟨g',off',rfl,d1,d2⟩:=hyr.line;have hxl:=hx.2 x hxm;have hyl:=hy.2 y hym;obtain⟨ax,cx,ex⟩:=An.form hxl;obtain⟨ay,cy,ey⟩:=An.form hyl;have hxw:=(S1.out.2 x hxm).1;have hyw:=(S2.out.2 y hym).1;unfold Dm at hxl hyl;rw[ex]at c2 hxl;rw[ey]at d2 hyl;simp only[hD]at c1 c2;simp only[hD']at d1 d2;have HNE:=Aa (show ¬ (x.key.toList=y.key.toList∧x.ws=y.ws)→Zd (xs.map LAt.plain) (ys.map LAt.plain)=false from fun h=>Qf (fun e=>by
     have h0:=congrArg (fun l:List PLine=>l[j]?) e;simp only[List.getElem?_map,e1,e2,List.getElem?_append_right (show D.length≤j by omega),List.getElem?_append_right (show D'.length≤j by omega),hD,hD',Nat.sub_self,List.getElem?_cons_zero,Option.map_some]at h0;exact Ady h (Option.some.inj h0)))
    have HEQ:=Aa (show x.key.toList=y.key.toList→x.ws=y.ws→(xs.take (j+1)).map LAt.plain=(ys.take (j+1)).map LAt.plain from fun h h'=>by
     have t1:xs.take (j+1)=xs.take j++[x]:=by rw[e1,← hD,Ch,Cq]
     have t2:ys.take (j+1)=ys.take j++[y]:=by rw[e2,← hD',Ch,Cq]
     rw[t1,t2,List.map_append,List.map_append,hA.out,List.map_singleton,List.map_singleton,Adz h h'])
    have j0:(0:Int)≤(j:Int):=by omega
    have j1:(j:Int)<(n:Int):=by omega
    have u1:=fun p:Gr wr=>Ap c1 p
    have u2:=fun p:Gr wr=>Ap c2 p
    have v1:=fun p:Gr wr=>Ap d1 p
    have v2:=fun p:Gr wr=>Ap d2 p
    have HW:∀ p:Gr wr,Calls Tryz.prog 91 #[.slice ax x.ws.length cx,.slice ay y.ws.length cy] p.u fun e w'=>e=.returned (.bool (decide (x.ws=y.ws)))∧Below p.u.heap.size p.u w':=fun p=>N6 (hxl.below p.h) (hyl.below p.h) hxw hyw
    generalize hB:decide (x.ws=y.ws)=WB at HW;have EB:=Aa hB;clear hx hy hxm hym hxr hyr hxl hyl ex ey e1 e2 hD hD' hxw hyw c1 c2 d1 d2 hA hB;generalize x.key=xk at *;generalize y.key=yk at *;generalize x.ws.length=nx at *;generalize y.ws.length=ny at *;go_upto_region 6 with fail
    refine Bf (by kernel_rfl) (by kernel_rfl) ?_;cases hk:(xk.toList == yk.toList)
    ·have hk':(xk.toList != yk.toList)=true:=by rw[bne,hk];rfl
     have HF:=HNE.out (fun h=>by rw[beq_eq_false_iff_ne]at hk;exact hk h.1);iterate 12 quiet_step (fail)
     iterate 12 (with_reducible refine Bt ?_ ?_;kernel_rfl;simp only[Act.put,List.setIfInBounds_toArray,List.set_cons_zero,List.set_cons_succ])
     quiet_step (fail)
     refine wpQuiet_nil ?_;rintro _ ⟨⟨wq,bq⟩,rfl⟩;have B:=Aa (bw.trans (bq.mono bw.size));clear u1 u2 v1 v2 HW bq bw;go_wp2;go_ret;exact⟨HF ▸ rfl,B.out⟩
    ·have hk':(xk.toList != yk.toList)=false:=by rw[bne,hk];rfl
     have hke:=Aa (beq_iff_eq.1 hk);iterate 22 quiet_step (fail)
     quiet_step ((go_at_call 91;refine Ff (HW _)))
     iterate 2 quiet_step (fail)
     refine wpQuiet_nil ?_;rintro _ ⟨⟨wq,bq⟩,rfl⟩;have B:=Aa (bw.trans (bq.mono bw.size));clear u1 u2 v1 v2 HW bq bw;cases WB
     ·have HF:=HNE.out (fun h=>of_decide_eq_false EB.out h.2);go_wp2;go_ret;exact⟨HF ▸ rfl,B.out⟩
     ·have HT:=Aa (HEQ.out hke.out (of_decide_eq_true EB.out));go_wp2;go_roundw;case rel=>exact⟨j+1,by go_num,by omega,HT,B.out⟩
      case measure=>simp[intOf];omega
   ·obtain rfl:j=n:=by omega
    have HT:=Ab0 (show xs.map LAt.plain=ys.map LAt.plain from by
     have h:=hA.out;have e:xs.length=ys.length:=en.out.trans EN.out;rw[← en.out,List.take_length,e,List.take_length]at h;exact h)
    clear hA;go_wp2;go_ret;exact⟨HT ▸ rfl,bw⟩
 ·have HF:=Qf (show xs.map LAt.plain≠ys.map LAt.plain from fun e=>hl (by have:=congrArg List.length e;simpa using this));have hne:((xs.length:Int) != (ys.length:Int))=true:=by rw[bne_iff_ne];omega
  clear h1 h2 s1 s2 hl;generalize xs.length=n at *;generalize ys.length=m at *;go_enter Tryz.func159,Tryz.ntmps159;go_wp2;go_ret;exact⟨HF ▸ rfl,Below.refl _ _⟩
variable {B k:Nat}{wc w2 w3:World}{vk v3:Value}{cs:Array Value}{rest:List MRow}{α β:Type}{y:BAt}
theorem Lg{done:List A6}{x:A6}{T:TypeId}(hm:A8 B wc (D9 vk done++rest))(hB:B≤wc.heap.size)(o2:A3 wc.heap.size w2 x.v x.ls)(b2:Below wc.heap.size wc w2)
  (hown3:w3.ownsRow B 93 5 v3 (done.length+1) (done.flatMap A6.cells++x.cells)) (hgrow:(w2.alloc (.cells cs T)).grownBy w3 vk.ownBlock) (hv:v3.ownBlock=vk.ownBlock∨v3.ownBlock=some (w2.alloc (.cells cs T)).heap.size) :
  A8 B w3 (D9 v3 (done++[x])++rest)∧Below B wc w3:=by
 have m2:A8 B w2 (x.rows++(D9 vk done++rest)):=A8.join hm o2 b2 hB;have m3:A8 B w2 (⟨vk,93,5,done.length,done.flatMap A6.cells⟩::(done.flatMap A6.rows++x.rows++rest)):=m2.perm (by
  unfold D9;rw[List.cons_append,List.append_assoc];exact List.perm_middle.trans ((List.perm_append_comm_assoc _ _ _).cons _))
 have ba:=(Below.refl w2.heap.size w2).alloc (Nat.le_refl _) (.cells cs T);have m4:=m3.below ba;have m5:=m4.grow (r':=⟨v3,93,5,done.length+1,done.flatMap A6.cells++x.cells⟩) hown3 hgrow hv;refine⟨?_,?_⟩
 ·unfold D9;rw[List.flatMap_append,List.flatMap_append,List.length_append,List.flatMap_singleton,List.flatMap_singleton];exact m5
 ·have hz:=b2.size;exact((b2.mono hB).trans (ba.mono (by omega))).grown hgrow (by simp;omega) (fun k hk=>(A8.lt m3 (List.mem_cons_self ..) hk).1)
theorem Fl(W:World)(R:Nat)(cs:Array Value):W.grownBy (W.setRow R cs) (some R):=⟨rfl,rfl,rfl,by rw[setRow_size];exact Nat.le_refl _,fun i _ hi=>setRow_other _ _ _ _ (fun e=>hi (by rw[e]))⟩
open Classical in
theorem Agc{P Q:List PLine}(h:Zd P Q=true):P=Q:=of_decide_eq_true h
open Classical in
theorem Aay{P Q:List PLine}(h:Zd P Q=false):P≠Q:=of_decide_eq_false h
def Aaz(P:List PChange)(w:World)(e:Ending)(w':World):Prop:=∃ v' cs',e=.returned v'∧cs'.map A6.plain=P∧(∀ c∈cs',Ae c.ls)∧Bv w.heap.size w' v' cs'∧cs'.length≤12∧Below w.heap.size w w'
def Qi(B:Nat)(w2:World)(xk xn:ByteArray)(P Q:List PLine)(nr:Nat)(rr:List MRow)(out i:Value)(wr:World):Prop:=∃(k:Nat) (cs:List A6),i=.int .i64 (k:Int)∧k≤nr∧cs.map A6.plain=((rulesOf xk).take k).flatMap (fun p=>Fj xk xn P Q p.1)∧(∀ c∈cs,Ae c.ls)∧cs.length≤k∧A8 B wr (D9 out cs++rr)∧Below B w2 wr
theorem Kz{l D T:List α}{x:α}(f:α→List β)(e:l=D++x::T)(hD:D.length=k):(l.take (k+1)).flatMap f=(l.take k).flatMap f++f x:=by
 subst e hD;rw[Ch,Cq,List.flatMap_append,List.flatMap_singleton]
theorem Ww{x:BAt}(hx:Cb w x)(hy:Cb w y)(sx:Ae x.ls)(sy:Ae y.ls):Calls Tryz.prog 98 #[.agg #[.string x.kind,.string x.name,x.v],.agg #[.string y.kind,.string y.name,y.v]] w fun e w'=>Aaz (Ma x.plain y.plain) w e w':=by
 obtain⟨xk,xn,xv,xl⟩:=x;obtain⟨yk,yn,yv,yl⟩:=y;unfold Cb at hx hy;simp only at *;obtain⟨xa,xc,rfl⟩:=hx.1.form;obtain⟨ya,yc,rfl⟩:=hy.1.form;have G:Below w.heap.size w ((w.alloc (.cells #[.string xk,.string xn,.slice xa xl.length xc] 46)).alloc (.cells #[.string yk,.string yn,.slice ya yl.length yc] 46)):=((Below.refl w.heap.size w).alloc (Nat.le_refl _) _).alloc (by simp) _;have hwz:((w.alloc (.cells #[.string xk,.string xn,.slice xa xl.length xc] 46)).alloc (.cells #[.string yk,.string yn,.slice ya yl.length yc] 46)).heap.size=w.heap.size+2:=by simp
 have zA:((w.alloc (.cells #[.string xk,.string xn,.slice xa xl.length xc] 46)).alloc (.cells #[.string yk,.string yn,.slice ya yl.length yc] 46)).heap[w.heap.size]?=some (.cells #[.string xk,.string xn,.slice xa xl.length xc] 46 (0,0)):=by
  have b1:=(Below.refl (w.alloc (.cells #[.string xk,.string xn,.slice xa xl.length xc] 46)).heap.size (w.alloc (.cells #[.string xk,.string xn,.slice xa xl.length xc] 46))).alloc (Nat.le_refl _) (.cells #[.string yk,.string yn,.slice ya yl.length yc] 46);rw[b1.block w.heap.size (by simp)];exact Al w _
 have zB:((w.alloc (.cells #[.string xk,.string xn,.slice xa xl.length xc] 46)).alloc (.cells #[.string yk,.string yn,.slice ya yl.length yc] 46)).heap[w.heap.size+1]?=some (.cells #[.string yk,.string yn,.slice ya yl.length yc] 46 (0,0)):=by
  have:=Al (w.alloc (.cells #[.string xk,.string xn,.slice xa xl.length xc] 46)) (.cells #[.string yk,.string yn,.slice ya yl.length yc] 46);rw[World.size_alloc]at this;exact this
 have HX2:=Aa (show Ah _ (.slice xa xl.length xc) xl from Ah.below hx G);have HY2:=Aa (show Ah _ (.slice ya yl.length yc) yl from Ah.below hy G);have SX:=Aa sx;have SY:=Aa sy;generalize hw2:(w.alloc (.cells #[.string xk,.string xn,.slice xa xl.length xc] 46)).alloc (.cells #[.string yk,.string yn,.slice ya yl.length yc] 46)=w2 at *;have ew2:=Aa hw2;have hown0:=World.ownsRow_lit (base:=w.heap.size+2) (e:=93) (size:=5) w2 #[] 0 (by omega) (by decide) rfl;rw[hwz]at hown0;have b00:=(Below.refl (w.heap.size+2) w2).alloc (by omega) (.cells #[] 93);have M0:A8 (w.heap.size+2) (w2.alloc (.cells #[] 93)) (D9 (.slice (some ⟨w.heap.size+2,0,none⟩) 0 0) []):=⟨fun r hr=>by rw[List.mem_singleton.1 hr];exact hown0,by simp[D9]⟩;have s3:(w2.alloc (.cells #[] 93)).heap.size=w.heap.size+3:=by rw[World.size_alloc,hwz]
 have zA3:=(b00.block w.heap.size (by omega)).trans zA;have a0:=Ab zA3 0;simp only[List.getElem?_toArray,List.getElem?_cons_zero]at a0;have HSR:=fun W=>D5 xk W
 obtain⟨i0,hi,hz0,hz1,hz2⟩:=info_parts Ib;clear hx hy sx sy hw2 hown0;generalize hnx:xl.length=nx at *;have enx:=Aa hnx;clear hnx;generalize hny:yl.length=ny at *;have eny:=Aa hny;clear hny;go_enter Tryz.func98,Tryz.ntmps98;go_upto_region 2 with fail
 rw[ew2.out];go_wp2_with (go_at_call 56;refine(HSR _).mono ?_)
 rintro e w4 ⟨vr,L,rfl,hpl,hr,b4⟩;have hLl:=Ic xk hpl;have HPL:=Aa hpl;obtain⟨ra,rc,rfl,_⟩:=Ai (show w4.ownsRow _ 54 4 vr L.length (L.flatMap Ce.cells) from A8.head hr);obtain⟨rr,hrr⟩:∃ rr,(⟨.slice ra L.length rc,54,4,L.length,L.flatMap Ce.cells⟩::L.flatMap Ce.rows:List MRow)=rr:=⟨_,rfl⟩;have M4:A8 (w.heap.size+2) w4 (D9 (.slice (some ⟨w.heap.size+2,0,none⟩) 0 0) []++rr):=by
  rw[← hrr];exact(A8.join M0 hr b4 (by omega)).perm List.perm_append_comm
 have B4:Below (w.heap.size+2) w2 w4:=b00.trans (b4.mono (by omega));have HI:=Aa (show Qi (w.heap.size+2) w2 xk xn (xl.map LAt.plain) (yl.map LAt.plain) L.length rr (.slice (some ⟨w.heap.size+2,0,none⟩) 0 0) (.int .i64 0) w4 from⟨0,[],rfl,by omega,by simp,by simp,by simp,M4,B4⟩);have ERR:=Aa hrr;clear hr b4 hpl HSR M0 M4 B4 b00 zA3 a0 hrr s3;generalize hnr:L.length=nr at *;have enr:=Aa hnr;clear hnr;go_wp2;go_loopw [5,7] (fun out i wr=>Qi (w.heap.size+2) w2 xk xn (xl.map LAt.plain) (yl.map LAt.plain) nr rr out i wr) (fun _ i _=>nr - (intOf i).toNat)
 case atStart=>exact HI.out
 case round =>
  clear HI;obtain⟨k,cs,rfl,hk,hcs,hsm,hcl,hm,bw⟩:=hrel;obtain⟨qa,qc,rfl,_⟩:=Ai (show wr.ownsRow (w.heap.size+2) 93 5 _ cs.length (cs.flatMap A6.cells) from A8.head hm);have hszw:=bw.size;rw[hwz]at hszw;have hB2:Below w2.heap.size w2 wr:=by rw[hwz];exact bw
  have kA:=(bw.block w.heap.size (by omega)).trans zA;have kB:=(bw.block (w.heap.size+1) (by omega)).trans zB;by_cases hlt:k<nr
  ·obtain⟨D,r,T,eL,hD⟩:=Br L k (by have:=enr.out;omega);have hrow:An wr (.slice ra nr rc) nr 4 (L.flatMap Ce.cells):=by
    have:=A8.right hm;rw[← ERR.out]at this;have h:=Bo (A8.head this);exact h
   rw[eL]at hrow;obtain⟨rg,roff,rfl,r0,_,_,_⟩:=hrow.rule;rw[hD]at r0;have a0:=Ab kA 0;have a1:=Ab kA 1;have a2:=Ab kA 2;have b0:=Ab kB 0;have b1:=Ab kB 1;have b2:=Ab kB 2;simp only[List.getElem?_toArray,List.getElem?_cons_zero,List.getElem?_cons_succ]at a0 a1 a2 b0 b1 b2;have k1:(0:Int)≤(k:Int):=by omega
   have k2:(k:Int)<(nr:Int):=by omega
   have HST:=Aa (show ((rulesOf xk).take (k+1)).flatMap (fun p=>Fj xk xn (xl.map LAt.plain) (yl.map LAt.plain) p.1)=cs.map A6.plain++Fj xk xn (xl.map LAt.plain) (yl.map LAt.plain) r.key from by
    have e:rulesOf xk=D.map Ce.plain++r.plain::T.map Ce.plain:=by rw[← HPL.out,eL];simp
    rw[Kz _ e (by rw[List.length_map];exact hD),hcs];rfl)
   have HXr:=Aa (HX2.out.below hB2);have HYr:=Aa (HY2.out.below hB2);have HM:=Aa hm;have HSM:=Aa hsm;clear hm hsm hcs hrow kA kB eL hD;generalize r.key=rk at *;have u0:=fun p:Gr wr=>Ap a0 p
   have u1:=fun p:Gr wr=>Ap a1 p
   have u2:=fun p:Gr wr=>Ap a2 p
   have u3:=fun p:Gr wr=>Ap r0 p
   have HL5:∀ p:Gr wr,Calls Tryz.prog 89 #[.agg #[.string xk,.string xn,.slice xa nx xc],.string rk] p.u fun e w'=>∃ v' ls',e=.returned v'∧ls'.map LAt.plain=Jb (xl.map LAt.plain) rk∧A3 p.u.heap.size w' v' ls'∧Ae ls'∧Below p.u.heap.size p.u w':=fun p=>by
    have:=Mf (b:=⟨xk,xn,.slice xa nx xc,xl⟩) rk (w:=p.u) (HXr.out.below p.h) SX.out;exact this
   go_upto_region 6 with fail
   refine Hb 7 8 (by kernel_rfl) rfl ?_;refine Jf [true,true,true,true,true,true,false,false] 2 rfl (by kernel_rfl) ?_;simp only[Ba,Bb,A9];iterate 6 (refine Dg (fun K hK=>?_);go_simp;refine hK _ ?_;clear hK K)
   refine Gh ?_;refine Iy (f:=1) (rs:=[6]) (by kernel_rfl) (by simp) ?_;rintro⟨wp,bp⟩;refine Ix.cons rfl (by decide) (fun K hK=>?_) Ix.nil;go_simp;go_wp2_with (go_at_call 89;refine(HL5 ⟨wp,bp⟩).mono ?_;rintro e w5 ⟨v5,ls5,rfl,hp5,o5,s5,b5⟩)
   refine hK.out _ _ b5 ?_;clear hK K;refine Np (by kernel_rfl) rfl (by kernel_rfl) ?_;rintro⟨wz,bz⟩ K hK;go_simp;refine hK.out _ _ (NoPanic.normal ?_);clear hK K;have hz5:=b5.size;have B5:Below wr.heap.size wr wz:=bp.trans ((b5.trans (bz.mono b5.size)).mono bp.size);have O5:=Aa ((o5.below bz).lin);have S5:=Aa s5;have HP5:=Aa hp5;obtain⟨a5,c5,rfl,_⟩:=Ai o5.row;have e0:=(B5.cell (World.block_lt_of_cell? wr _ b0)).trans b0;have e1:=(B5.cell (World.block_lt_of_cell? wr _ b1)).trans b1;have e2:=(B5.cell (World.block_lt_of_cell? wr _ b2)).trans b2;have f0:=(B5.cell (World.block_lt_of_cell? wr _ a0)).trans a0;have f1:=(B5.cell (World.block_lt_of_cell? wr _ a1)).trans a1;have r5:=(B5.cell (World.block_lt_of_cell? wr _ r0)).trans r0;have HYz:=Aa (HYr.out.below B5);have HMz:=Aa (HM.out.below B5);have bwz:=bw.trans (B5.mono (by omega));clear u0 u1 u2 u3 HL5 o5 s5 hp5 b5 bp bz a0 a1 a2 b0 b1 b2 r0 HXr HYr HM;generalize hn5:ls5.length=n5 at *;have en5:=Aa hn5;clear hn5;have v0:=fun p:Gr wz=>Ap e0 p
   have v1:=fun p:Gr wz=>Ap e1 p
   have v2:=fun p:Gr wz=>Ap e2 p
   have v3:=fun p:Gr wz=>Ap r5 p
   have HL6:∀ p:Gr wz,Calls Tryz.prog 89 #[.agg #[.string yk,.string yn,.slice ya ny yc],.string rk] p.u fun e w'=>∃ v' ls',e=.returned v'∧ls'.map LAt.plain=Jb (yl.map LAt.plain) rk∧A3 p.u.heap.size w' v' ls'∧Ae ls'∧Below p.u.heap.size p.u w':=fun p=>by
    have:=Mf (b:=⟨yk,yn,.slice ya ny yc,yl⟩) rk (w:=p.u) (HYz.out.below p.h) SY.out;exact this
   go_upto_region 7 with fail
   refine Hb 7 8 (by kernel_rfl) rfl ?_;refine Jf [true,true,true,true,true,true,false,false] 2 rfl (by kernel_rfl) ?_;simp only[Ba,Bb,A9];iterate 6 (refine Dg (fun K hK=>?_);go_simp;refine hK _ ?_;clear hK K)
   refine Gh ?_;refine Iy (f:=1) (rs:=[6]) (by kernel_rfl) (by simp) ?_;rintro⟨wp,bp⟩;refine Ix.cons rfl (by decide) (fun K hK=>?_) Ix.nil;go_simp;go_wp2_with (go_at_call 89;refine(HL6 ⟨wp,bp⟩).mono ?_;rintro e w7 ⟨v7,ls7,rfl,hp7,o7,s7,b7⟩)
   refine hK.out _ _ b7 ?_;clear hK K;refine Np (by kernel_rfl) rfl (by kernel_rfl) ?_;rintro⟨w8,b8⟩ K hK;go_simp;refine hK.out _ _ (NoPanic.normal ?_);clear hK K;have hz7:=b7.size;have B7:Below wp.heap.size wp w8:=b7.trans (b8.mono b7.size);have Bz:Below wz.heap.size wz w8:=bp.trans (B7.mono bp.size);have O7:=Aa (o7.below b8);have S7:=Aa s7;have HP7:=Aa hp7;obtain⟨a7,c7,rfl,_⟩:=Ai o7.row;have HMp:=Aa (HMz.out.below bp);have bwp:=bwz.trans (bp.mono (by have:=bwz.size;omega));have HSAME:=Ze (w:=w8) (O5.out.below Bz) O7.out.lin S5.out S7.out;rw[HP5.out,HP7.out]at HSAME;clear v0 v1 v2 v3 HL6 o7 s7 hp7 b7 b8 HMz bwz HYz;generalize hn7:ls7.length=n7 at *;have en7:=Aa hn7;clear hn7;generalize hEQ:Zd (Jb (xl.map LAt.plain) rk) (Jb (yl.map LAt.plain) rk)=EQ at HSAME;have EEQ:=Aa hEQ;clear hEQ;go_wp2_with (go_at_call 159;refine HSAME.mono ?_)
   first | rintro e w9 rfl b9 | rintro e w9 ⟨rfl,b9⟩
   have B9:Below wp.heap.size wp w9:=B7.trans (b9.mono B7.size);have hpz:=bwp.size;clear HSAME;cases EQ
   ·have BZ9:Below wz.heap.size wz w9:=Bz.trans (b9.mono Bz.size);have h0:=(BZ9.cell (World.block_lt_of_cell? wz _ f0)).trans f0;have h1:=(BZ9.cell (World.block_lt_of_cell? wz _ f1)).trans f1;have h2:=(BZ9.cell (World.block_lt_of_cell? wz _ r5)).trans r5;have hS0:(fun W:World=>W.cell? ⟨w.heap.size,0,none⟩=some (.string xk)∧W.cell? ⟨w.heap.size,1,none⟩=some (.string xn)∧W.cell? ⟨rg,roff+k * 4,none⟩=some (.string rk)) w9.drew:=⟨h0,h1,h2⟩;have s0:=fun p:{ W:World // W.cell? ⟨w.heap.size,0,none⟩=some (.string xk)∧W.cell? ⟨w.heap.size,1,none⟩=some (.string xn)∧W.cell? ⟨rg,roff+k * 4,none⟩=some (.string rk) }=>p.2.1
    have s1:=fun p:{ W:World // W.cell? ⟨w.heap.size,0,none⟩=some (.string xk)∧W.cell? ⟨w.heap.size,1,none⟩=some (.string xn)∧W.cell? ⟨rg,roff+k * 4,none⟩=some (.string rk) }=>p.2.2.1
    have s2:=fun p:{ W:World // W.cell? ⟨w.heap.size,0,none⟩=some (.string xk)∧W.cell? ⟨w.heap.size,1,none⟩=some (.string xn)∧W.cell? ⟨rg,roff+k * 4,none⟩=some (.string rk) }=>p.2.2.2
    letI:Inhabited { W:World // W.cell? ⟨w.heap.size,0,none⟩=some (.string xk)∧W.cell? ⟨w.heap.size,1,none⟩=some (.string xn)∧W.cell? ⟨rg,roff+k * 4,none⟩=some (.string rk) }:=⟨⟨w9.drew,hS0⟩⟩;go_upto_region 9 with fail
    refine A0 (S:=fun W=>W.cell? ⟨w.heap.size,0,none⟩=some (.string xk)∧W.cell? ⟨w.heap.size,1,none⟩=some (.string xn)∧W.cell? ⟨rg,roff+k * 4,none⟩=some (.string rk)) 12 13 (by kernel_rfl) rfl ?_;refine Ay [true,true,true,true,true,true,true,true,true,true,true,false,false] 2 rfl (by kernel_rfl) hS0 ?_;simp only[Ba,Bb,A9];iterate 11 (refine Ak (fun K hK=>?_);go_simp;refine hK _ ?_;clear hK K)
    refine Ao ?_;clear s0 s1 s2;refine Ac (f:=1) (rs:=[11]) (by kernel_rfl) (by simp) ?_;refine Ad.cons rfl (by decide) (fun K hK=>?_) Ad.nil;go_simp;have zR:=Al w9 (.cells #[.int .i64 0,.string ⟨#[]⟩,.string ⟨#[]⟩,.string ⟨#[]⟩,.slice none 0 0] 93);have bR:Below w9.heap.size w9 (w9.alloc (.cells #[.int .i64 0,.string ⟨#[]⟩,.string ⟨#[]⟩,.string ⟨#[]⟩,.slice none 0 0] 93)).drew:=((Below.refl w9.heap.size w9).alloc (Nat.le_refl _) _).drew;refine hK.out _ _ ⟨(bR.cell (World.block_lt_of_cell? w9 _ h0)).trans h0,(bR.cell (World.block_lt_of_cell? w9 _ h1)).trans h1,(bR.cell (World.block_lt_of_cell? w9 _ h2)).trans h2⟩ ?_;clear hK K;have zR:(w9.alloc (.cells #[.int .i64 0,.string ⟨#[]⟩,.string ⟨#[]⟩,.string ⟨#[]⟩,.slice none 0 0] 93)).drew.heap[w9.heap.size]?=_:=zR;generalize hWR:(w9.alloc (.cells #[.int .i64 0,.string ⟨#[]⟩,.string ⟨#[]⟩,.string ⟨#[]⟩,.slice none 0 0] 93)).drew=WR at *;clear hWR;refine A5 (by kernel_rfl) rfl (by kernel_rfl) ?_;intro K hK;rw[if_pos (by rfl)];refine wp_store_row 93 _ _ rfl w9.heap.size #[.int .i64 3,.string xk,.string xn,.string rk,.slice a7 n7 c7] rfl rfl 93 _ zR (by kernel_rfl) rfl (by first | rfl | kernel_rfl) ?_
    refine hK.out _ _ (NoPanic.normal ?_);clear hK K;have zX:=setRow_heap WR w9.heap.size _ #[.int .i64 3,.string xk,.string xn,.string rk,.slice a7 n7 c7] _ _ zR;have BX:Below w9.heap.size w9 (WR.setRow w9.heap.size #[.int .i64 3,.string xk,.string xn,.string rk,.slice a7 n7 c7]):=bR.grown (Fl WR w9.heap.size #[.int .i64 3,.string xk,.string xn,.string rk,.slice a7 n7 c7]) bR.size (fun q hq=>by cases hq;exact Nat.le_refl _);generalize WR.setRow w9.heap.size #[.int .i64 3,.string xk,.string xn,.string rk,.slice a7 n7 c7]=WX at *;clear zR bR h0 h1 h2 f0 f1 e0 e1 e2 r5;by_cases hn0:n7=0
    ·have HEM:=Aa (show ls7.map LAt.plain=[] from by rw[List.length_eq_zero_iff.1 (en7.out.trans hn0)];rfl);subst hn0;have fX:=Ag zX 0;have gX:=Ab zX 0;simp only[List.getElem?_toArray,List.getElem?_cons_zero]at gX;have zX4:(WX.setCell ⟨w9.heap.size,0,none⟩ (.int .i64 4)).heap[w9.heap.size]?=some (.cells #[.int .i64 4,.string xk,.string xn,.string rk,.slice a7 0 c7] 93 (0,0)):=by rw[heap_setCell_same WX w9.heap.size 0 _ _ _ zX];rfl
     have BX4:=Cf BX ⟨w9.heap.size,0,none⟩ (Nat.le_refl _) (.int .i64 4);go_upto_region 12 with fail
     generalize WX.setCell ⟨w9.heap.size,0,none⟩ (.int .i64 4)=WX at *;rename_i WX0;have zX:=zX4;have BX:=BX4;clear zX4 BX4 fX gX;have OX:=Aa (O7.out.below ((b9.trans (BX.mono b9.size))));have BP:Below wp.heap.size wp WX:=B9.trans (BX.mono B9.size);have g0:=Ab zX 0;have g1:=Ab zX 1;have g2:=Ab zX 2;have g3:=Ab zX 3;have g4:=Ab zX 4;simp only[List.getElem?_toArray,List.getElem?_cons_zero,List.getElem?_cons_succ]at g0 g1 g2 g3 g4;have hm3:(WX.alloc (.cells #[.int .i64 4,.string xk,.string xn,.string rk,.slice a7 0 c7] 93)).ownsRow (w.heap.size+2) 93 5 (.slice qa cs.length qc) cs.length (cs.flatMap A6.cells):=(A8.head (HMp.out.below BP)).alloc _;have hrow:=Cj WX #[.int .i64 4,.string xk,.string xn,.string rk,.slice a7 0 c7] 93 5 rfl;have hone:∀ u∈(#[.int .i64 4,.string xk,.string xn,.string rk,.slice a7 0 c7]:Array Value).toList,u.oneCell'=true:=by intro u hu;simp at hu;rcases hu with rfl | rfl | rfl | rfl | rfl <;> rfl
     have hBX:=BP.size;have hbase:=Aa (show ∀ q,(Value.slice qa cs.length qc).ownBlock=some q→w.heap.size+2≤q from fun q hq=>(A8.lt HMp.out (List.mem_append_left _ (List.mem_cons_self ..)) hq).1);go_wp2_with (at_builtin;refine Be (by rfl) _ _ 34 (by rfl) (w.heap.size+2) 93 i0 _ 5 80 Tryz.underlying34 hi hz0 hz1 hz2 rfl (by decide) _ cs.length _ (by rfl) hm3 _ 1 _ (by rfl) hrow hone ?c3 ?c4 (by rw[World.size_alloc];omega) ?_)
     case c3=>unfold maxLen;omega
     case c4=>omega
     intro ao' cap' wE hownE hgE hvE;have HPU:=Lg (x:=⟨4,xk,xn,rk,.slice a7 0 c7,ls7⟩) HMp.out (by omega) OX.out BP hownE hgE (by first | exact hvE | (rw[World.size_alloc];exact hvE))
     have HR:=Aa (show Qi (w.heap.size+2) w2 xk xn (xl.map LAt.plain) (yl.map LAt.plain) nr rr (.slice ao' (cs.length+1) cap') (.int .i64 ((k:Int)+1)) wE from⟨k+1,cs++[⟨4,xk,xn,rk,.slice a7 0 c7,ls7⟩],by rw[Int.natCast_add];rfl,by omega,by
      rw[HST.out,List.map_append,List.map_singleton];unfold Fj;rw[if_neg (Aay EEQ.out)];show _=_++[(⟨_,xk,xn,rk,Jb (yl.map LAt.plain) rk⟩:PChange)]
      rw[← HP7.out,if_pos (by rw[HEM.out];rfl)];rfl,fun c hc=>by
      rcases List.mem_append.1 hc with hc | hc
      ·exact HSM.out c hc
      ·rw[List.mem_singleton.1 hc];exact S7.out,by simp;omega,HPU.1,bwp.trans (HPU.2.mono (Nat.le_refl _))⟩)
     clear hm3 hrow hone hownE hgE hvE HPU;go_wp2;go_roundw;case rel=>exact HR.out
     case measure=>simp[intOf];omega
    ·have HEM:=Aa (show ls7.map LAt.plain≠[] from fun e=>hn0 (by rw[← en7.out];exact List.length_eq_zero_iff.2 (List.map_eq_nil_iff.1 e)));have hq0:((n7:Int) == 0)=false:=by rw[beq_eq_false_iff_ne];omega
     have OX:=Aa (O7.out.below ((b9.trans (BX.mono b9.size))));have BP:Below wp.heap.size wp WX:=B9.trans (BX.mono B9.size);have g0:=Ab zX 0;have g1:=Ab zX 1;have g2:=Ab zX 2;have g3:=Ab zX 3;have g4:=Ab zX 4;simp only[List.getElem?_toArray,List.getElem?_cons_zero,List.getElem?_cons_succ]at g0 g1 g2 g3 g4;have hm3:(WX.alloc (.cells #[.int .i64 3,.string xk,.string xn,.string rk,.slice a7 n7 c7] 93)).ownsRow (w.heap.size+2) 93 5 (.slice qa cs.length qc) cs.length (cs.flatMap A6.cells):=(A8.head (HMp.out.below BP)).alloc _;have hrow:=Cj WX #[.int .i64 3,.string xk,.string xn,.string rk,.slice a7 n7 c7] 93 5 rfl;have hone:∀ u∈(#[.int .i64 3,.string xk,.string xn,.string rk,.slice a7 n7 c7]:Array Value).toList,u.oneCell'=true:=by intro u hu;simp at hu;rcases hu with rfl | rfl | rfl | rfl | rfl <;> rfl
     have hBX:=BP.size;have hbase:=Aa (show ∀ q,(Value.slice qa cs.length qc).ownBlock=some q→w.heap.size+2≤q from fun q hq=>(A8.lt HMp.out (List.mem_append_left _ (List.mem_cons_self ..)) hq).1);go_wp2_with (at_builtin;refine Be (by rfl) _ _ 34 (by rfl) (w.heap.size+2) 93 i0 _ 5 80 Tryz.underlying34 hi hz0 hz1 hz2 rfl (by decide) _ cs.length _ (by rfl) hm3 _ 1 _ (by rfl) hrow hone ?c3 ?c4 (by rw[World.size_alloc];omega) ?_)
     case c3=>unfold maxLen;omega
     case c4=>omega
     intro ao' cap' wE hownE hgE hvE;have HPU:=Lg (x:=⟨3,xk,xn,rk,.slice a7 n7 c7,ls7⟩) HMp.out (by omega) OX.out BP hownE hgE (by first | exact hvE | (rw[World.size_alloc];exact hvE))
     have HR:=Aa (show Qi (w.heap.size+2) w2 xk xn (xl.map LAt.plain) (yl.map LAt.plain) nr rr (.slice ao' (cs.length+1) cap') (.int .i64 ((k:Int)+1)) wE from⟨k+1,cs++[⟨3,xk,xn,rk,.slice a7 n7 c7,ls7⟩],by rw[Int.natCast_add];rfl,by omega,by
      rw[HST.out,List.map_append,List.map_singleton];unfold Fj;rw[if_neg (Aay EEQ.out)];show _=_++[(⟨_,xk,xn,rk,Jb (yl.map LAt.plain) rk⟩:PChange)]
      rw[← HP7.out,if_neg (by rw[List.isEmpty_iff];exact HEM.out)];rfl,fun c hc=>by
      rcases List.mem_append.1 hc with hc | hc
      ·exact HSM.out c hc
      ·rw[List.mem_singleton.1 hc];exact S7.out,by simp;omega,HPU.1,bwp.trans (HPU.2.mono (Nat.le_refl _))⟩)
     clear hm3 hrow hone hownE hgE hvE HPU;go_wp2;go_roundw;case rel=>exact HR.out
     case measure=>simp[intOf];omega
   ·have HR:=Aa (show Qi (w.heap.size+2) w2 xk xn (xl.map LAt.plain) (yl.map LAt.plain) nr rr _ (.int .i64 ((k:Int)+1)) w9 from⟨k+1,cs,by rw[Int.natCast_add];rfl,by omega,by
     rw[HST.out];unfold Fj;rw[if_pos (Agc EEQ.out),List.append_nil],HSM.out,by omega,HMp.out.below B9,bwp.trans (B9.mono (by omega))⟩)
    go_wp2;go_roundw;case rel=>exact HR.out
    case measure=>simp[intOf];omega
  ·obtain rfl:k=nr:=by omega
   have HO:=Aa (show Aaz (Ma ⟨xk,xn,xl.map LAt.plain⟩ ⟨yk,yn,yl.map LAt.plain⟩) w (.returned (.slice qa cs.length qc)) wr from⟨_,cs,rfl,by
    rw[hcs,← enr.out,← List.length_map (f:=Ce.plain),HPL.out,List.take_length];rfl,hsm,A8.mono (A8.left hm) (by omega),by omega,G.trans (bw.mono (by omega))⟩)
   clear hm hsm hcs;generalize cs.length=nc at *;go_wp2;go_ret;exact HO.out
variable {ao:Option Addr}{n:Nat}{xs:List Value}
theorem Iz{α:Type}(lt:α→α→Bool)(x:α):∀(D T:List α),(∀ y∈D,lt y x=true)→(∀ y,T.head?=some y→lt y x=false)→Dd lt x (D++T)=D++x::T
 | [],[],_,_=>rfl
 | [],y::T,_,h=>by
  have:=h y rfl;simp[Dd,this]
 | y::D,T,h,h2=>by
  have h1:=h y (by simp);simp[Dd,h1,Iz lt x D T (fun z hz=>h z (by simp[hz])) h2]
theorem An.drop{cap size:Nat}(h:An w (.slice ao n cap) n size xs)(k:Nat)(hk:k≤n):An w (.slice (if cap=k then ao else ao.map (fun a=>a.add (k * size))) (n - k) (cap - k)) (n - k) size (xs.drop (k * size)):=by
 obtain⟨hl,ao',c',hv,hcap,hc⟩:=h;cases hv
 refine⟨?_,_,_,rfl,⟨by omega,by omega⟩,?_⟩
 ·rw[List.length_drop,hl,Nat.sub_mul]
 ·by_cases hkn:n - k=0
  ·exact .inl hkn
  ·rcases hc with h0 | ⟨b,off,rfl,hc⟩
   ·exact .inl (by omega)
   ·refine .inr ⟨b,off+k * size,?_,fun j u hj=>?_⟩
    ·rw[if_neg (by omega),Option.map_some,I5]
    ·rw[List.getElem?_drop]at hj;have:=hc _ u hj
     rwa [show off+(k * size+j)=off+k * size+j by omega]at this
def Age(R:List Plain)(b:BAt)(x:LAt)(w:World)(e:Ending)(w':World):Prop:=∃ v' D T,b.ls=D++T∧e=.returned (.agg #[.string b.kind,.string b.name,v'])∧(D++x::T).map LAt.plain=Dd (lineLt R) x.plain (b.ls.map LAt.plain)∧w'.ownsRow w.heap.size 115 2 v' (D++x::T).length ((D++x::T).flatMap LAt.cells)∧Below w.heap.size w w'
theorem Rl{b:BAt}{x:LAt}(hb:Cb w b)(hs:Ae b.ls)(hx:Dm w x)(hxs:x.ws.length≤1048576):Calls Tryz.prog 86 #[.agg #[.string b.kind,.string b.name,b.v],.agg #[.string x.key,x.v]] w fun e w'=>Age (rulesOf b.kind) b x w e w':=by
 obtain⟨bk,bn,bv,bl⟩:=b;obtain⟨xk,xv,xw⟩:=x;unfold Cb at hb;unfold Dm at hx;simp only at *;obtain⟨la,lc,rfl⟩:=hb.1.form;obtain⟨xa,xc,rfl⟩:=hx.form;have b0:Below w.heap.size w (((w.alloc (.cells #[.string bk,.string bn,.slice la bl.length lc] 46)).alloc (.cells #[.string xk,.slice xa xw.length xc] 115)).alloc (.cells #[.string ⟨#[]⟩,.string ⟨#[]⟩,.slice none 0 0] 46)):=(((Below.refl _ _).alloc (Nat.le_refl _) _).alloc (by simp) _).alloc (by simp;omega) _;obtain⟨hsz,hy0,hy1,hy2⟩:=I4 (w:=w) (o1:=.cells #[.string bk,.string bn,.slice la bl.length lc] 46) (o2:=.cells #[.string xk,.slice xa xw.length xc] 115) (o3:=.cells #[.string ⟨#[]⟩,.string ⟨#[]⟩,.slice none 0 0] 46);have hbs:=Aa hb;have hsm:=Aa hs;have hxi:=Aa hx;have hl:=hs.1;clear hb hs hx;generalize hn:bl.length=len at *;have en:=Aa hn;clear hn;generalize hnx:xw.length=nx at *;have enx:=Aa hnx;clear hnx;generalize hW0:((w.alloc (.cells #[.string bk,.string bn,.slice la len lc] 46)).alloc (.cells #[.string xk,.slice xa nx xc] 115)).alloc (.cells #[.string ⟨#[]⟩,.string ⟨#[]⟩,.slice none 0 0] 46)=W0 at *;have eW0:=Aa hW0;have hszW:=Aa hsz;clear hW0 hsz;go_enter Tryz.func86,Tryz.ntmps86;go_wp2;go_loopw [5] (fun i wr=>∃(D T:List LAt),i=.int .i64 (D.length:Int)∧D.length≤len∧Hid (bl=D++T)∧Hid (∀ y∈D.map LAt.plain,lineLt (rulesOf bk) y ⟨xk,xw⟩=true)∧Below W0.heap.size W0 wr) (fun i _=>len - (intOf i).toNat)
 case atStart =>
  rw[eW0.out];exact⟨[],bl,rfl,by simp,(rfl:bl=[]++bl),(by simp:∀ y∈([]:List LAt).map LAt.plain,_),Below.refl _ _⟩
 case round =>
  obtain⟨D,T,rfl,hDl,hDT,hlt,bw⟩:=hrel;have gw:=b0.trans (bw.mono b0.size);have hs3:=hszW.out;have z0:=(bw.block w.heap.size (by omega)).trans hy0;have z1:=(bw.block (w.heap.size+1) (by omega)).trans hy1;have z2:=(bw.block (w.heap.size+2) (by omega)).trans hy2;have c0:=Ab z0 0;have c2:=Ab z0 2;have d0:=Ab z1 0;have d1:=Ab z1 1;simp only[List.getElem?_toArray,List.getElem?_cons_zero,List.getElem?_cons_succ]at c0 c2 d0 d1;have hszw:=bw.size;have v0:=fun p:Gr wr=>Ap c0 p
  have v2:=fun p:Gr wr=>Ap c2 p
  have u0:=fun p:Gr wr=>Ap d0 p
  have u1:=fun p:Gr wr=>Ap d1 p
  have HBS:=Aa (hbs.out.below gw);have HXI:=Aa (hxi.out.below gw);clear c0 c2 d0 d1 hy0 hy1 hy2;go_upto_region 2 with fail
  go_cut [21] from 6 to 21 (fun c wx=>∃ B:Bool,c=.bool B∧Hid ((B=true→∃ y T',T=y::T'∧lineLt (rulesOf bk) y.plain ⟨xk,xw⟩=true)∧(B=false→∀ y,(T.map LAt.plain).head?=some y→lineLt (rulesOf bk) y ⟨xk,xw⟩=false))∧Below wr.heap.size wr wx)
  case first =>
   cases T with
   | nil =>
    have hDlen:D.length=len:=by rw[← en.out,hDT.out];simp
    have hno:¬ ((D.length:Int)<(len:Int)):=by omega
    clear hDlen;clear HBS HXI hDT hlt u0 u1 v0 z0 z1 z2 hbs hxi hsm;refine Bf (by kernel_rfl) (by kernel_rfl) ?_;iterate 6 quiet_step (fail)
    iterate 9 (with_reducible refine Bt ?_ ?_;kernel_rfl;simp only[Act.put,List.setIfInBounds_toArray,List.set_cons_zero,List.set_cons_succ])
    quiet_step (fail)
    refine wpQuiet_nil ?_;rintro _ ⟨⟨wq,bq⟩,rfl⟩;go_wp2_with fail
    go_meet;exact⟨false,rfl,⟨(fun h=>by cases h),fun _ y hy=>by cases hy⟩,bq⟩
   | cons y T =>
    have hDlen:D.length<len:=by have:=en.out;rw[hDT.out]at this;simp at this;omega
    have h5:=HBS.out;rw[hDT.out]at h5;obtain⟨g,off,rfl,y1,y2⟩:=h5.1.line;have hym:y∈bl:=by rw[hDT.out];simp
    have hyin:=HBS.out.2 y hym;obtain⟨ya,yc,ey⟩:=An.form hyin;have w1:=fun p:Gr wr=>Ap y1 p
    have w2:=fun p:Gr wr=>Ap y2 p
    rw[ey]at w2;have hyl:=(hsm.out.2 y hym).1;have HLL:∀ p:Gr wr,Calls Tryz.prog 121 #[.string bk,.agg #[.string y.key,.slice ya y.ws.length yc],.agg #[.string xk,.slice xa nx xc]] p.u fun e w'=>e=.returned (.bool (lineLt (rulesOf bk) y.plain ⟨xk,xw⟩))∧Below p.u.heap.size p.u w':=fun p =>
     Kn bk y.plain ⟨xk,xw⟩ (ey ▸ An.below hyin p.h) (by have:=HXI.out.below p.h;rw[← enx.out]at this ⊢;exact this) hyl (by show xw.length≤_;rw[enx.out];exact hxs)
    have hyes:((D.length:Int)<(len:Int)):=by omega
    have i1:(0:Int)≤(D.length:Int):=by omega
    have hres:=Aa (show ∀ B,lineLt (rulesOf bk) y.plain ⟨xk,xw⟩=B→((B=true→∃ y' T',y::T=y'::T'∧lineLt (rulesOf bk) y'.plain ⟨xk,xw⟩=true)∧(B=false→∀ y',((y::T).map LAt.plain).head?=some y'→lineLt (rulesOf bk) y' ⟨xk,xw⟩=false)) from fun B hB=>⟨fun h=>⟨y,T,rfl,by rw[hB,h]⟩,fun h y' hy'=>by cases hy';rw[hB,h]⟩);generalize hLT:lineLt (rulesOf bk) y.plain ⟨xk,xw⟩=LT at HLL;have eLT:=Aa hLT;clear hLT HBS HXI h5 hyin ey hDT hlt z0 z1 z2 hbs hxi hsm y1 y2 hym;generalize y.key=yk at *;generalize y.ws.length=ny at *;refine Bf (by kernel_rfl) (by kernel_rfl) ?_;iterate 14 quiet_step (fail)
    quiet_step ((go_at_call 121;refine Ff (HLL _)))
    quiet_step (fail)
    refine wpQuiet_nil ?_;rintro _ ⟨⟨wq,bq⟩,rfl⟩;go_wp2_with fail
    go_meet;exact⟨LT,rfl,hres.out LT eLT.out,bq⟩
  case rest =>
   obtain⟨wk,hwk⟩:∃ wk,wk=wc:=⟨_,rfl⟩;subst hwk;obtain⟨B,rfl,hB,bk'⟩:=hcut;have BK:=bw.trans (bk'.mono bw.size);cases B
   ·have hst:=Aa (hB.out.2 rfl);have z0k:=(bk'.block w.heap.size (by omega)).trans z0;have z1k:=(bk'.block (w.heap.size+1) (by omega)).trans z1;have z2k:=(bk'.block (w.heap.size+2) (by omega)).trans z2;have gk:=gw.trans (bk'.mono gw.size);have c2:=Ab z0k 2;have d0:=Ab z1k 0;have d1:=Ab z1k 1;simp only[List.getElem?_toArray,List.getElem?_cons_zero,List.getElem?_cons_succ]at c2 d0 d1;have hbl:=Aa (hbs.out.1.below gk);have q1:(0:Int)≤(D.length:Int):=by omega
    have q2:(D.length:Int)≤(len:Int):=by omega
    have hcap:len≤lc:=by have:=hbs.out.1.cap.1;rw[en.out]at this;exact this
    have q3:(len:Int)≤(lc:Int):=by omega
    have q4:(D.length:Int)≤(lc:Int):=by omega
    have hS0:wk.drew.cell? ⟨w.heap.size,2,none⟩=some (.slice la len lc)∧wk.drew.cell? ⟨w.heap.size+1,0,none⟩=some (.string xk)∧wk.drew.cell? ⟨w.heap.size+1,1,none⟩=some (.slice xa nx xc):=⟨c2,d0,d1⟩;have s2:=fun p:{ W:World // W.cell? ⟨w.heap.size,2,none⟩=some (.slice la len lc)∧W.cell? ⟨w.heap.size+1,0,none⟩=some (.string xk)∧W.cell? ⟨w.heap.size+1,1,none⟩=some (.slice xa nx xc) }=>p.2.1
    have s0:=fun p:{ W:World // W.cell? ⟨w.heap.size,2,none⟩=some (.slice la len lc)∧W.cell? ⟨w.heap.size+1,0,none⟩=some (.string xk)∧W.cell? ⟨w.heap.size+1,1,none⟩=some (.slice xa nx xc) }=>p.2.2.1
    have s1:=fun p:{ W:World // W.cell? ⟨w.heap.size,2,none⟩=some (.slice la len lc)∧W.cell? ⟨w.heap.size+1,0,none⟩=some (.string xk)∧W.cell? ⟨w.heap.size+1,1,none⟩=some (.slice xa nx xc) }=>p.2.2.2
    clear hB v0 v2 u0 u1 HBS HXI;go_upto_region 4 with fail
    letI:Inhabited { W:World // W.cell? ⟨w.heap.size,2,none⟩=some (.slice la len lc)∧W.cell? ⟨w.heap.size+1,0,none⟩=some (.string xk)∧W.cell? ⟨w.heap.size+1,1,none⟩=some (.slice xa nx xc) }:=⟨⟨wk.drew,hS0⟩⟩;refine A0 (S:=fun W=>W.cell? ⟨w.heap.size,2,none⟩=some (.slice la len lc)∧W.cell? ⟨w.heap.size+1,0,none⟩=some (.string xk)∧W.cell? ⟨w.heap.size+1,1,none⟩=some (.slice xa nx xc)) 15 16 (by kernel_rfl) rfl ?_;refine Ay [false,true,true,true,true,false,true,false,false,true,true,true,true,false,false,false] 7 rfl (by kernel_rfl) hS0 ?_;simp only[Ba,Bb,A9];iterate 9 (refine Ak (fun K hK=>?_);go_simp;refine hK _ ?_;clear hK K)
    refine Ao ?_;have hKS:=Aa (show ∀ u,Below wk.heap.size wk u→u.cell? ⟨w.heap.size,2,none⟩=some (.slice la len lc)∧u.cell? ⟨w.heap.size+1,0,none⟩=some (.string xk)∧u.cell? ⟨w.heap.size+1,1,none⟩=some (.slice xa nx xc) from fun u hu=>⟨(hu.cell (World.block_lt_of_cell? wk _ c2)).trans c2,(hu.cell (World.block_lt_of_cell? wk _ d0)).trans d0,(hu.cell (World.block_lt_of_cell? wk _ d1)).trans d1⟩);have hDrow:=Aa (show An wk (.slice la D.length lc) D.length 2 (D.flatMap LAt.cells) from by
     have h1:=hbl.out;rw[en.out]at h1;have h2:=h1.take D.length hDl;rw[hDT.out,List.flatMap_append,← By LAt.cells 2 LAt.len D,List.take_left]at h2;exact h2)
    have hTrow:=Aa (show An wk (.slice (if lc=D.length then la else la.map (fun a=>a.add (D.length * 2))) (len - D.length) (lc - D.length)) (len - D.length) 2 (T.flatMap LAt.cells) from by
     have h1:=hbl.out;rw[en.out]at h1;have h2:=h1.drop D.length hDl;rw[hDT.out,List.flatMap_append,← By LAt.cells 2 LAt.len D,List.drop_left,By LAt.cells 2 LAt.len D]at h2;exact h2)
    have hone:=Aa (show ∀ y∈bl,∃ a n c,y.v=.slice a n c from fun y hy=>by obtain⟨a,c,e⟩:=An.form (hbs.out.2 y hy);exact⟨a,_,c,e⟩);have hD1:=Aa (Fr (ls:=D) (fun y hy=>hone.out y (by rw[hDT.out];simp[hy])));have hT1:=Aa (Fr (ls:=T) (fun y hy=>hone.out y (by rw[hDT.out];simp[hy])));obtain⟨i0,hi,hi0,hi1,hi2⟩:=info_parts Ez;generalize (if lc=D.length then la else la.map (fun a=>a.add (D.length * 2)))=laT at hTrow ⊢;refine Ac (f:=6) (rs:=[0,7]) (by kernel_rfl) (by simp) ?_;refine Ad.cons rfl (by decide) (fun K hK=>?wayA) (Ad.cons rfl (by decide) (fun K hK=>?wayB) Ad.nil);case' wayA =>
     go_simp;have bA:Below wk.heap.size wk (wk.alloc (.cells #[] 115)).drew:=((Below.refl wk.heap.size wk).alloc (Nat.le_refl _) (.cells #[] 115)).drew;have oA:(wk.alloc (.cells #[] 115)).drew.ownsRow wk.heap.size 115 2 (.slice (some ⟨wk.heap.size,0,none⟩) 0 0) 0 []:=World.ownsRow_lit (base:=wk.heap.size) (e:=115) (size:=2) wk #[] 0 (Nat.le_refl _) (by decide) rfl;refine hK.out _ _ (hKS.out _ bA) ?_;clear hK K;refine Ac (f:=5) (rs:=[5,7]) (by kernel_rfl) (by simp) ?_;refine Ad.cons rfl (by decide) (fun K hK=>?wayA1) (Ad.cons rfl (by decide) (fun K hK=>?wayA2) Ad.nil)
    case' wayA1 =>
     refine A4 rfl _ _ 44 rfl wk.heap.size 115 i0 _ 2 40 Tryz.underlying44 hi hi0 hi1 hi2 rfl (by decide) _ 0 _ rfl oA _ D.length _ rfl (hDrow.out.below bA) hD1.out (by unfold maxLen;omega) (by omega) bA.size ?_;intro ao5 c5 u5 own5 hg5 _;simp only[Nat.zero_add]at own5 ⊢;have b5:=bA.grown hg5 bA.size (fun q hq=>by cases hq;exact Nat.le_refl _);refine hK.out _ _ (hKS.out _ b5) ?_;clear hK K;refine Ac (f:=4) (rs:=[7]) (by kernel_rfl) (by simp) ?_;refine Ad.cons rfl (by decide) (fun K hK=>?_) Ad.nil;go_simp;have bU:=b5.alloc b5.size (.cells #[.string xk,.slice xa nx xc] 115);have own7:=own5.alloc (.cells #[.string xk,.slice xa nx xc] 115);have has7:=Cj u5 #[.string xk,.slice xa nx xc] 115 2 rfl;refine hK.out _ _ (hKS.out _ bU) ?_;clear hK K;generalize u5.alloc (.cells #[.string xk,.slice xa nx xc] 115)=U at bU own7 has7 ⊢;clear own5 hg5 b5 oA bA
    case' wayA2 =>
     go_simp;have b7:Below wk.heap.size wk ((wk.alloc (.cells #[] 115)).alloc (.cells #[.string xk,.slice xa nx xc] 115)).drew:=(((Below.refl wk.heap.size wk).alloc (Nat.le_refl _) (.cells #[] 115)).alloc (by simp) _).drew;have o7:((wk.alloc (.cells #[] 115)).alloc (.cells #[.string xk,.slice xa nx xc] 115)).drew.ownsRow wk.heap.size 115 2 (.slice (some ⟨wk.heap.size,0,none⟩) 0 0) 0 []:=oA.alloc (.cells #[.string xk,.slice xa nx xc] 115);have h7:An ((wk.alloc (.cells #[] 115)).alloc (.cells #[.string xk,.slice xa nx xc] 115)).drew (.slice (some ⟨wk.heap.size+1,0,none⟩) 1 1) 1 2 [.string xk,.slice xa nx xc]:=by
      have:=Cj (wk.alloc (.cells #[] 115)) #[.string xk,.slice xa nx xc] 115 2 rfl;rw[World.size_alloc]at this;exact this
     refine hK.out _ _ (hKS.out _ b7) ?_;clear hK K;refine Ac (f:=4) (rs:=[5]) (by kernel_rfl) (by simp) ?_;refine Ad.cons rfl (by decide) (fun K hK=>?_) Ad.nil;refine A4 rfl _ _ 44 rfl wk.heap.size 115 i0 _ 2 40 Tryz.underlying44 hi hi0 hi1 hi2 rfl (by decide) _ 0 _ rfl o7 _ D.length _ rfl (hDrow.out.below b7) hD1.out (by unfold maxLen;omega) (by omega) b7.size ?_;intro ao5 c5 U own7 hg5 _;simp only[Nat.zero_add]at own7 ⊢;have bU:=b7.grown hg5 b7.size (fun q hq=>by cases hq;exact Nat.le_refl _);have has7:=h7.far (.inr (fun b off m c e=>by cases e;show wk.heap.size+1≠wk.heap.size;omega)) hg5;refine hK.out _ _ (hKS.out _ bU) ?_;clear hK K o7 h7 hg5 b7 oA bA
    case' wayB =>
     go_simp;have bB:Below wk.heap.size wk (wk.alloc (.cells #[.string xk,.slice xa nx xc] 115)).drew:=((Below.refl wk.heap.size wk).alloc (Nat.le_refl _) _).drew;refine hK.out _ _ (hKS.out _ bB) ?_;clear hK K;refine Ac (f:=5) (rs:=[0]) (by kernel_rfl) (by simp) ?_;refine Ad.cons rfl (by decide) (fun K hK=>?_) Ad.nil;go_simp;have b7:Below wk.heap.size wk ((wk.alloc (.cells #[.string xk,.slice xa nx xc] 115)).alloc (.cells #[] 115)).drew:=(((Below.refl wk.heap.size wk).alloc (Nat.le_refl _) _).alloc (by simp) _).drew;have o7:((wk.alloc (.cells #[.string xk,.slice xa nx xc] 115)).alloc (.cells #[] 115)).drew.ownsRow wk.heap.size 115 2 (.slice (some ⟨wk.heap.size+1,0,none⟩) 0 0) 0 []:=by
      have:=World.ownsRow_lit (base:=wk.heap.size) (e:=115) (size:=2) (wk.alloc (.cells #[.string xk,.slice xa nx xc] 115)) #[] 0 (by simp) (by decide) rfl;rw[World.size_alloc]at this;exact this
     have h7:An ((wk.alloc (.cells #[.string xk,.slice xa nx xc] 115)).alloc (.cells #[] 115)).drew (.slice (some ⟨wk.heap.size,0,none⟩) 1 1) 1 2 [.string xk,.slice xa nx xc]:=(Cj wk #[.string xk,.slice xa nx xc] 115 2 rfl).below ((Below.refl _ _).alloc (Nat.le_refl _) _).drew;refine hK.out _ _ (hKS.out _ b7) ?_;clear hK K;refine Ac (f:=4) (rs:=[5]) (by kernel_rfl) (by simp) ?_;refine Ad.cons rfl (by decide) (fun K hK=>?_) Ad.nil;refine A4 rfl _ _ 44 rfl wk.heap.size 115 i0 _ 2 40 Tryz.underlying44 hi hi0 hi1 hi2 rfl (by decide) _ 0 _ rfl o7 _ D.length _ rfl (hDrow.out.below b7) hD1.out (by unfold maxLen;omega) (by omega) b7.size ?_;intro ao5 c5 U own7 hg5 _;simp only[Nat.zero_add]at own7 ⊢;have bU:=b7.grown hg5 b7.size (fun q hq=>by cases hq;show wk.heap.size≤wk.heap.size+1;omega);have has7:=h7.far (.inr (fun b off m c e=>by cases e;show wk.heap.size≠wk.heap.size+1;omega)) hg5;refine hK.out _ _ (hKS.out _ bU) ?_;clear hK K o7 h7 hg5 b7 bB
    all_goals
     refine Ac (f:=3) (rs:=[8]) (by kernel_rfl) (by simp) ?_;refine Ad.cons rfl (by decide) (fun K hK=>?_) Ad.nil;have hbase5:∀ q,(Value.slice ao5 (D.length) c5).ownBlock=some q→wk.heap.size≤q:=fun q hq=>(own7.lt q hq).1
     refine A4 rfl _ _ 44 rfl wk.heap.size 115 i0 _ 2 40 Tryz.underlying44 hi hi0 hi1 hi2 rfl (by decide) _ (D.length) _ rfl own7 _ 1 _ rfl has7 (by intro z hz;simp at hz;rcases hz with rfl | rfl <;> rfl) (by unfold maxLen;omega) (by omega) bU.size ?_
     intro ao8 c8 u8 own8 hg8 _;have b8:=bU.grown hg8 bU.size hbase5;refine hK.out _ _ (hKS.out _ b8) ?_;clear hK K;refine Ac (f:=2) (rs:=[13]) (by kernel_rfl) (by simp) ?_;refine Ad.cons rfl (by decide) (fun K hK=>?_) Ad.nil;have hbase8:∀ q,(Value.slice ao8 (D.length+1) c8).ownBlock=some q→wk.heap.size≤q:=fun q hq=>(own8.lt q hq).1
     refine A4 rfl _ _ 44 rfl wk.heap.size 115 i0 _ 2 40 Tryz.underlying44 hi hi0 hi1 hi2 rfl (by decide) _ (D.length+1) _ rfl own8 _ (len - D.length) _ rfl (hTrow.out.below b8) hT1.out (by unfold maxLen;omega) (by omega) b8.size ?_;intro ao9 c9 u9 own9 hg9 _;have b9:=b8.grown hg9 b8.size hbase8;refine hK.out _ _ (hKS.out _ b9) ?_;clear hK K own7 has7 own8 hg8 hg9 hbase5 hbase8 b8 bU;refine Ac (f:=1) (rs:=[14]) (by kernel_rfl) (by simp) ?_;refine Ad.cons rfl (by decide) (fun K hK=>?_) Ad.nil;go_simp;refine hK.out _ _ (hKS.out _ b9) ?_;clear hK K;have z09:=(b9.block w.heap.size (by have:=bk'.size;omega)).trans z0k;have z29:=(b9.block (w.heap.size+2) (by have:=bk'.size;omega)).trans z2k;have m0:=Ab z09 0;have m1:=Ab z09 1;have m2:=Ab z09 2;have fr2:=Ag z09 2;simp only[List.getElem?_toArray,List.getElem?_cons_zero,List.getElem?_cons_succ]at m0 m1 m2;refine A5 (by kernel_rfl) rfl (by kernel_rfl) ?_;intro K hK;have hkz:w.heap.size+3≤wk.heap.size:=by have:=bk'.size;omega
     have G9:=gk.trans (b9.mono (by omega));have O9:=Aa own9;have z2s:(u9.setCell ⟨w.heap.size,2,none⟩ (.slice ao9 (D.length+1+(len - D.length)) c9)).heap[w.heap.size+2]?=some (.cells #[.string ⟨#[]⟩,.string ⟨#[]⟩,.slice none 0 0] 46 (0,0)):=by rw[Below.heap_setCell _ _ _ _ (by simp)];exact z29
     clear own9;generalize hN9:D.length+1+(len - D.length)=N9 at *;have eN9:=Aa hN9;clear hN9;go_simp;refine hK.out _ _ (NoPanic.normal ?_);clear hK K;go_wp2_with (with_reducible show wpList _ _ _ (Oper.mk _ (Op.store _ (Operand.tmp 4) _) _ _ _ _::_) _ _;refine wpList_store_row rfl 46 _ _ rfl (w.heap.size+2) #[.string bk,.string bn,.slice ao9 N9 c9] ?_ ?_ 46 _ z2s ?_ ?_ ?_ ?_)
     all_goals (first | rfl | kernel_rfl | exact⟨rfl,rfl,rfl⟩ | (obtain⟨i9,e9,_,s9,_⟩:=info_parts Cn;exact⟨i9,e9,s9⟩) | skip)
     have z5:(World.setRow (u9.setCell ⟨w.heap.size,2,none⟩ (.slice ao9 N9 c9)) (w.heap.size+2) #[.string bk,.string bn,.slice ao9 N9 c9]).heap[w.heap.size+2]?=some (.cells #[.string bk,.string bn,.slice ao9 N9 c9] 46 (0,0)):=setRow_heap _ _ _ _ _ _ z2s;have G9':=G9.setCell (p:=⟨w.heap.size,2,none⟩) (Nat.le_refl _) (.slice ao9 N9 c9)
     have b5:Below w.heap.size w (World.setRow (u9.setCell ⟨w.heap.size,2,none⟩ (.slice ao9 N9 c9)) (w.heap.size+2) #[.string bk,.string bn,.slice ao9 N9 c9]) :=
      ⟨G9'.os,G9'.tape,G9'.output,by rw[setRow_size];exact G9'.size,fun k hk=>by rw[setRow_other _ _ _ _ (by omega)];exact G9'.block k hk⟩
     have o5:=Ec (Jr (Cl O9.out ⟨w.heap.size,2,none⟩ (by simp;omega) (.slice ao9 N9 c9)) (w.heap.size+2) (by omega) #[.string bk,.string bn,.slice ao9 N9 c9]) (show w.heap.size≤wk.heap.size by omega);have y0:=Ab z5 0;have y1:=Ab z5 1;have y2:=Ab z5 2;simp only[List.getElem?_toArray,List.getElem?_cons_zero,List.getElem?_cons_succ]at y0 y1 y2;generalize World.setRow _ _ _=W at b5 y0 y1 y2 z5 o5 ⊢;have f1:(D++(⟨xk,.slice xa nx xc,xw⟩:LAt)::T).map LAt.plain=Dd (lineLt (rulesOf bk)) ⟨xk,xw⟩ (bl.map LAt.plain):=by
      have h1:=Iz (lineLt (rulesOf bk)) ⟨xk,xw⟩ (D.map LAt.plain) (T.map LAt.plain) hlt.out hst.out;rw[show (bl.map LAt.plain)=D.map LAt.plain++T.map LAt.plain from by rw[hDT.out];simp];exact(show _=_ from by simp[LAt.plain]).trans h1.symm
     have f2:W.ownsRow w.heap.size 115 2 (.slice ao9 N9 c9) (D++(⟨xk,.slice xa nx xc,xw⟩:LAt)::T).length ((D++(⟨xk,.slice xa nx xc,xw⟩:LAt)::T).flatMap LAt.cells):=by
      have e1:(D++(⟨xk,.slice xa nx xc,xw⟩:LAt)::T).length=N9:=by
       have h1:=en.out;rw[hDT.out]at h1;rw[← eN9.out];simp at h1 ⊢;omega
      have e2:(D++(⟨xk,.slice xa nx xc,xw⟩:LAt)::T).flatMap LAt.cells=[]++D.flatMap LAt.cells++[.string xk,.slice xa nx xc]++T.flatMap LAt.cells:=by simp[LAt.cells]
      rw[e1,e2];exact o5
     exact bodyPost_ret (v:=.agg #[.string bk,.string bn,.slice ao9 N9 c9]) (by simp[results,Tryz.results86,go_sem,y0,y1,y2]) rfl ⟨_,D,T,hDT.out,rfl,f1,f2,b5⟩
   ·obtain⟨y,T',rfl,hyl⟩:=hB.out.1 rfl;have hDT':Hid (bl=(D++[y])++T'):=by have:=hDT.out;show bl=_;rw[this];simp
    have hlt':Hid (∀ z∈(D++[y]).map LAt.plain,lineLt (rulesOf bk) z ⟨xk,xw⟩=true):=by
     show ∀ z∈_,_
     intro z hz;rw[List.map_append,List.mem_append]at hz;rcases hz with hz | hz
     ·exact hlt.out z hz
     ·simp only[List.map_cons,List.map_nil,List.mem_singleton]at hz;rw[hz];exact hyl
    have hDl2:D.length<len:=by have:=en.out;rw[hDT.out]at this;simp at this;omega
    clear hB v0 v2 u0 u1 HBS HXI hDT hlt hyl z0 z1 z2;go_wp2;go_roundw;case rel=>exact⟨D++[y],T',by simp,by simp;omega,hDT',hlt',BK⟩
    case measure=>simp[intOf];omega
variable {bv:Value}
def Ad1(bs:List BAt)(x:BAt)(w:World)(e:Ending)(w':World):Prop:=∃ v' D T,bs=D++T∧e=.returned (.agg #[v'])∧(D++x::T).map BAt.plain=Dd blockLt x.plain (bs.map BAt.plain)∧w'.ownsRow w.heap.size 46 3 v' (D++x::T).length ((D++x::T).flatMap BAt.cells)∧Below w.heap.size w w'
theorem Kp{bl:List BAt}{x:BAt}(hb:An w bv bl.length 3 (bl.flatMap BAt.cells))(hbf:∀ y∈bl,∃ a n c,y.v=.slice a n c)(hs:bl.length≤1048576)(hx:∃ a n c,x.v=.slice a n c):Calls Tryz.prog 54 #[.agg #[bv],.agg #[.string x.kind,.string x.name,x.v]] w fun e w'=>Ad1 bl x w e w':=by
 obtain⟨xk,xn,xv,xl⟩:=x;simp only at *;obtain⟨la,lc,rfl⟩:=hb.form;obtain⟨xa,nx,xc,rfl⟩:=hx;have b0:Below w.heap.size w (((w.alloc (.cells #[.slice la bl.length lc] 25)).alloc (.cells #[.string xk,.string xn,.slice xa nx xc] 46)).alloc (.cells #[.slice none 0 0] 25)):=(((Below.refl _ _).alloc (Nat.le_refl _) _).alloc (by simp) _).alloc (by simp;omega) _;obtain⟨hsz,hy0,hy1,hy2⟩:=I4 (w:=w) (o1:=.cells #[.slice la bl.length lc] 25) (o2:=.cells #[.string xk,.string xn,.slice xa nx xc] 46) (o3:=.cells #[.slice none 0 0] 25);have hbs:=Aa hb;have hone:=Aa hbf;have hl:=hs;clear hb hs hbf;generalize hn:bl.length=len at *;have en:=Aa hn;clear hn;generalize hW0:((w.alloc (.cells #[.slice la len lc] 25)).alloc (.cells #[.string xk,.string xn,.slice xa nx xc] 46)).alloc (.cells #[.slice none 0 0] 25)=W0 at *;have eW0:=Aa hW0;have hszW:=Aa hsz;clear hW0 hsz;go_enter Tryz.func54,Tryz.ntmps54;go_wp2;go_loopw [5] (fun i wr=>∃(D T:List BAt),i=.int .i64 (D.length:Int)∧D.length≤len∧Hid (bl=D++T)∧Hid (∀ y∈D.map BAt.plain,blockLt y ⟨xk,xn,xl.map LAt.plain⟩=true)∧Below W0.heap.size W0 wr) (fun i _=>len - (intOf i).toNat)
 case atStart =>
  rw[eW0.out];exact⟨[],bl,rfl,by simp,(rfl:bl=[]++bl),(by simp:∀ y∈([]:List BAt).map BAt.plain,_),Below.refl _ _⟩
 case round =>
  obtain⟨D,T,rfl,hDl,hDT,hlt,bw⟩:=hrel;have gw:=b0.trans (bw.mono b0.size);have hs3:=hszW.out;have z0:=(bw.block w.heap.size (by omega)).trans hy0;have z1:=(bw.block (w.heap.size+1) (by omega)).trans hy1;have z2:=(bw.block (w.heap.size+2) (by omega)).trans hy2;have c2:=Ab z0 0;have d0:=Ab z1 0;have d1:=Ab z1 1;have d2:=Ab z1 2;simp only[List.getElem?_toArray,List.getElem?_cons_zero,List.getElem?_cons_succ]at c2 d0 d1 d2;have hszw:=bw.size;have v2:=fun p:Gr wr=>Ap c2 p
  have u0:=fun p:Gr wr=>Ap d0 p
  have u1:=fun p:Gr wr=>Ap d1 p
  have u2:=fun p:Gr wr=>Ap d2 p
  have HBS:=Aa (hbs.out.below gw);clear c2 d0 d1 d2 hy0 hy1 hy2;go_upto_region 2 with fail
  go_cut [19] from 6 to 19 (fun c wx=>∃ B:Bool,c=.bool B∧Hid ((B=true→∃ y T',T=y::T'∧blockLt y.plain ⟨xk,xn,xl.map LAt.plain⟩=true)∧(B=false→∀ y,(T.map BAt.plain).head?=some y→blockLt y ⟨xk,xn,xl.map LAt.plain⟩=false))∧Below wr.heap.size wr wx)
  case first =>
   cases T with
   | nil =>
    have hDlen:D.length=len:=by rw[← en.out,hDT.out];simp
    have hno:¬ ((D.length:Int)<(len:Int)):=by omega
    clear hDlen;clear HBS hDT hlt u0 u1 u2 z0 z1 z2 hbs hone;refine Bf (by kernel_rfl) (by kernel_rfl) ?_;iterate 6 quiet_step (fail)
    iterate 7 (with_reducible refine Bt ?_ ?_;kernel_rfl;simp only[Act.put,List.setIfInBounds_toArray,List.set_cons_zero,List.set_cons_succ])
    quiet_step (fail)
    refine wpQuiet_nil ?_;rintro _ ⟨⟨wq,bq⟩,rfl⟩;go_wp2_with fail
    go_meet;exact⟨false,rfl,⟨(fun h=>by cases h),fun _ y hy=>by cases hy⟩,bq⟩
   | cons y T =>
    have hDlen:D.length<len:=by have:=en.out;rw[hDT.out]at this;simp at this;omega
    have h5:=HBS.out;rw[hDT.out]at h5;obtain⟨g,off,rfl,y1,y2,y3⟩:=h5.block;have hym:y∈bl:=by rw[hDT.out];simp
    obtain⟨ya,ny,yc,ey⟩:=hone.out y hym;have w1:=fun p:Gr wr=>Ap y1 p
    have w2:=fun p:Gr wr=>Ap y2 p
    have w3:=fun p:Gr wr=>Ap y3 p
    rw[ey]at w3;have HLL:∀ p:Gr wr,Calls Tryz.prog 59 #[.agg #[.string y.kind,.string y.name,.slice ya ny yc],.agg #[.string xk,.string xn,.slice xa nx xc]] p.u fun e w'=>e=.returned (.bool (blockLt y.plain ⟨xk,xn,xl.map LAt.plain⟩))∧Below p.u.heap.size p.u w':=fun p =>
     N5 y.plain ⟨xk,xn,xl.map LAt.plain⟩ ny nx yc xc ya xa p.u
    have hyes:((D.length:Int)<(len:Int)):=by omega
    have i1:(0:Int)≤(D.length:Int):=by omega
    have hres:=Aa (show ∀ B,blockLt y.plain ⟨xk,xn,xl.map LAt.plain⟩=B→((B=true→∃ y' T',y::T=y'::T'∧blockLt y'.plain ⟨xk,xn,xl.map LAt.plain⟩=true)∧(B=false→∀ y',((y::T).map BAt.plain).head?=some y'→blockLt y' ⟨xk,xn,xl.map LAt.plain⟩=false)) from fun B hB=>⟨fun h=>⟨y,T,rfl,by rw[hB,h]⟩,fun h y' hy'=>by cases hy';rw[hB,h]⟩);generalize hLT:blockLt y.plain ⟨xk,xn,xl.map LAt.plain⟩=LT at HLL;have eLT:=Aa hLT;clear hLT HBS h5 ey hDT hlt z0 z1 z2 hbs hone y1 y2 y3 hym;generalize y.kind=yk at *;generalize y.name=yn at *;refine Bf (by kernel_rfl) (by kernel_rfl) ?_;iterate 12 quiet_step (fail)
    quiet_step ((go_at_call 59;refine Ff (HLL _)))
    quiet_step (fail)
    refine wpQuiet_nil ?_;rintro _ ⟨⟨wq,bq⟩,rfl⟩;go_wp2_with fail
    go_meet;exact⟨LT,rfl,hres.out LT eLT.out,bq⟩
  case rest =>
   obtain⟨wk,hwk⟩:∃ wk,wk=wc:=⟨_,rfl⟩;subst hwk;obtain⟨B,rfl,hB,bk'⟩:=hcut;have BK:=bw.trans (bk'.mono bw.size);cases B
   ·have hst:=Aa (hB.out.2 rfl);have z0k:=(bk'.block w.heap.size (by omega)).trans z0;have z1k:=(bk'.block (w.heap.size+1) (by omega)).trans z1;have z2k:=(bk'.block (w.heap.size+2) (by omega)).trans z2;have gk:=gw.trans (bk'.mono gw.size);have c2:=Ab z0k 0;have d0:=Ab z1k 0;have d1:=Ab z1k 1;have d2:=Ab z1k 2;simp only[List.getElem?_toArray,List.getElem?_cons_zero,List.getElem?_cons_succ]at c2 d0 d1 d2;have hbl:=Aa (hbs.out.below gk);have q1:(0:Int)≤(D.length:Int):=by omega
    have q2:(D.length:Int)≤(len:Int):=by omega
    have hcap:len≤lc:=by exact hbs.out.cap.1
    have q3:(len:Int)≤(lc:Int):=by omega
    have q4:(D.length:Int)≤(lc:Int):=by omega
    have hS0:wk.drew.cell? ⟨w.heap.size,0,none⟩=some (.slice la len lc)∧wk.drew.cell? ⟨w.heap.size+1,0,none⟩=some (.string xk)∧wk.drew.cell? ⟨w.heap.size+1,1,none⟩=some (.string xn)∧wk.drew.cell? ⟨w.heap.size+1,2,none⟩=some (.slice xa nx xc):=⟨c2,d0,d1,d2⟩;have s2:=fun p:{ W:World // W.cell? ⟨w.heap.size,0,none⟩=some (.slice la len lc)∧W.cell? ⟨w.heap.size+1,0,none⟩=some (.string xk)∧W.cell? ⟨w.heap.size+1,1,none⟩=some (.string xn)∧W.cell? ⟨w.heap.size+1,2,none⟩=some (.slice xa nx xc) }=>p.2.1
    have s0:=fun p:{ W:World // W.cell? ⟨w.heap.size,0,none⟩=some (.slice la len lc)∧W.cell? ⟨w.heap.size+1,0,none⟩=some (.string xk)∧W.cell? ⟨w.heap.size+1,1,none⟩=some (.string xn)∧W.cell? ⟨w.heap.size+1,2,none⟩=some (.slice xa nx xc) }=>p.2.2.1
    have s1:=fun p:{ W:World // W.cell? ⟨w.heap.size,0,none⟩=some (.slice la len lc)∧W.cell? ⟨w.heap.size+1,0,none⟩=some (.string xk)∧W.cell? ⟨w.heap.size+1,1,none⟩=some (.string xn)∧W.cell? ⟨w.heap.size+1,2,none⟩=some (.slice xa nx xc) }=>p.2.2.2.1
    have s3:=fun p:{ W:World // W.cell? ⟨w.heap.size,0,none⟩=some (.slice la len lc)∧W.cell? ⟨w.heap.size+1,0,none⟩=some (.string xk)∧W.cell? ⟨w.heap.size+1,1,none⟩=some (.string xn)∧W.cell? ⟨w.heap.size+1,2,none⟩=some (.slice xa nx xc) }=>p.2.2.2.2
    clear hB v2 u0 u1 u2 HBS;go_upto_region 4 with fail
    letI:Inhabited { W:World // W.cell? ⟨w.heap.size,0,none⟩=some (.slice la len lc)∧W.cell? ⟨w.heap.size+1,0,none⟩=some (.string xk)∧W.cell? ⟨w.heap.size+1,1,none⟩=some (.string xn)∧W.cell? ⟨w.heap.size+1,2,none⟩=some (.slice xa nx xc) }:=⟨⟨wk.drew,hS0⟩⟩;refine A0 (S:=fun W=>W.cell? ⟨w.heap.size,0,none⟩=some (.slice la len lc)∧W.cell? ⟨w.heap.size+1,0,none⟩=some (.string xk)∧W.cell? ⟨w.heap.size+1,1,none⟩=some (.string xn)∧W.cell? ⟨w.heap.size+1,2,none⟩=some (.slice xa nx xc)) 15 16 (by kernel_rfl) rfl ?_;refine Ay [false,true,true,true,true,false,true,false,false,true,true,true,true,false,false,false] 7 rfl (by kernel_rfl) hS0 ?_;simp only[Ba,Bb,A9];iterate 9 (refine Ak (fun K hK=>?_);go_simp;refine hK _ ?_;clear hK K)
    refine Ao ?_;have hKS:=Aa (show ∀ u,Below wk.heap.size wk u→u.cell? ⟨w.heap.size,0,none⟩=some (.slice la len lc)∧u.cell? ⟨w.heap.size+1,0,none⟩=some (.string xk)∧u.cell? ⟨w.heap.size+1,1,none⟩=some (.string xn)∧u.cell? ⟨w.heap.size+1,2,none⟩=some (.slice xa nx xc) from fun u hu=>⟨(hu.cell (World.block_lt_of_cell? wk _ c2)).trans c2,(hu.cell (World.block_lt_of_cell? wk _ d0)).trans d0,(hu.cell (World.block_lt_of_cell? wk _ d1)).trans d1,(hu.cell (World.block_lt_of_cell? wk _ d2)).trans d2⟩);have hDrow:=Aa (show An wk (.slice la D.length lc) D.length 3 (D.flatMap BAt.cells) from by
     have h1:=hbl.out;have h2:=h1.take D.length hDl;rw[hDT.out,List.flatMap_append,← By BAt.cells 3 BAt.len D,List.take_left]at h2;exact h2)
    have hTrow:=Aa (show An wk (.slice (if lc=D.length then la else la.map (fun a=>a.add (D.length * 3))) (len - D.length) (lc - D.length)) (len - D.length) 3 (T.flatMap BAt.cells) from by
     have h1:=hbl.out;have h2:=h1.drop D.length hDl;rw[hDT.out,List.flatMap_append,← By BAt.cells 3 BAt.len D,List.drop_left,By BAt.cells 3 BAt.len D]at h2;exact h2)
    have hD1:=Aa (Fs (bs:=D) (fun y hy=>hone.out y (by rw[hDT.out];simp[hy])));have hT1:=Aa (Fs (bs:=T) (fun y hy=>hone.out y (by rw[hDT.out];simp[hy])));obtain⟨i0,hi,hi0,hi1,hi2⟩:=info_parts Cn;generalize (if lc=D.length then la else la.map (fun a=>a.add (D.length * 3)))=laT at hTrow ⊢;refine Ac (f:=6) (rs:=[0,7]) (by kernel_rfl) (by simp) ?_;refine Ad.cons rfl (by decide) (fun K hK=>?wayA) (Ad.cons rfl (by decide) (fun K hK=>?wayB) Ad.nil);case' wayA =>
     go_simp;have bA:Below wk.heap.size wk (wk.alloc (.cells #[] 46)).drew:=((Below.refl wk.heap.size wk).alloc (Nat.le_refl _) (.cells #[] 46)).drew;have oA:(wk.alloc (.cells #[] 46)).drew.ownsRow wk.heap.size 46 3 (.slice (some ⟨wk.heap.size,0,none⟩) 0 0) 0 []:=World.ownsRow_lit (base:=wk.heap.size) (e:=46) (size:=3) wk #[] 0 (Nat.le_refl _) (by decide) rfl;refine hK.out _ _ (hKS.out _ bA) ?_;clear hK K;refine Ac (f:=5) (rs:=[5,7]) (by kernel_rfl) (by simp) ?_;refine Ad.cons rfl (by decide) (fun K hK=>?wayA1) (Ad.cons rfl (by decide) (fun K hK=>?wayA2) Ad.nil)
    case' wayA1 =>
     refine A4 rfl _ _ 23 rfl wk.heap.size 46 i0 _ 3 56 Tryz.underlying23 hi hi0 hi1 hi2 rfl (by decide) _ 0 _ rfl oA _ D.length _ rfl (hDrow.out.below bA) hD1.out (by unfold maxLen;omega) (by omega) bA.size ?_;intro ao5 c5 u5 own5 hg5 _;simp only[Nat.zero_add]at own5 ⊢;have b5:=bA.grown hg5 bA.size (fun q hq=>by cases hq;exact Nat.le_refl _);refine hK.out _ _ (hKS.out _ b5) ?_;clear hK K;refine Ac (f:=4) (rs:=[7]) (by kernel_rfl) (by simp) ?_;refine Ad.cons rfl (by decide) (fun K hK=>?_) Ad.nil;go_simp;have bU:=b5.alloc b5.size (.cells #[.string xk,.string xn,.slice xa nx xc] 46);have own7:=own5.alloc (.cells #[.string xk,.string xn,.slice xa nx xc] 46);have has7:=Cj u5 #[.string xk,.string xn,.slice xa nx xc] 46 3 rfl;refine hK.out _ _ (hKS.out _ bU) ?_;clear hK K;generalize u5.alloc (.cells #[.string xk,.string xn,.slice xa nx xc] 46)=U at bU own7 has7 ⊢;clear own5 hg5 b5 oA bA
    case' wayA2 =>
     go_simp;have b7:Below wk.heap.size wk ((wk.alloc (.cells #[] 46)).alloc (.cells #[.string xk,.string xn,.slice xa nx xc] 46)).drew:=(((Below.refl wk.heap.size wk).alloc (Nat.le_refl _) (.cells #[] 46)).alloc (by simp) _).drew;have o7:((wk.alloc (.cells #[] 46)).alloc (.cells #[.string xk,.string xn,.slice xa nx xc] 46)).drew.ownsRow wk.heap.size 46 3 (.slice (some ⟨wk.heap.size,0,none⟩) 0 0) 0 []:=oA.alloc (.cells #[.string xk,.string xn,.slice xa nx xc] 46);have h7:An ((wk.alloc (.cells #[] 46)).alloc (.cells #[.string xk,.string xn,.slice xa nx xc] 46)).drew (.slice (some ⟨wk.heap.size+1,0,none⟩) 1 1) 1 3 [.string xk,.string xn,.slice xa nx xc]:=by
      have:=Cj (wk.alloc (.cells #[] 46)) #[.string xk,.string xn,.slice xa nx xc] 46 3 rfl;rw[World.size_alloc]at this;exact this
     refine hK.out _ _ (hKS.out _ b7) ?_;clear hK K;refine Ac (f:=4) (rs:=[5]) (by kernel_rfl) (by simp) ?_;refine Ad.cons rfl (by decide) (fun K hK=>?_) Ad.nil;refine A4 rfl _ _ 23 rfl wk.heap.size 46 i0 _ 3 56 Tryz.underlying23 hi hi0 hi1 hi2 rfl (by decide) _ 0 _ rfl o7 _ D.length _ rfl (hDrow.out.below b7) hD1.out (by unfold maxLen;omega) (by omega) b7.size ?_;intro ao5 c5 U own7 hg5 _;simp only[Nat.zero_add]at own7 ⊢;have bU:=b7.grown hg5 b7.size (fun q hq=>by cases hq;exact Nat.le_refl _);have has7:=h7.far (.inr (fun b off m c e=>by cases e;show wk.heap.size+1≠wk.heap.size;omega)) hg5;refine hK.out _ _ (hKS.out _ bU) ?_;clear hK K o7 h7 hg5 b7 oA bA
    case' wayB =>
     go_simp;have bB:Below wk.heap.size wk (wk.alloc (.cells #[.string xk,.string xn,.slice xa nx xc] 46)).drew:=((Below.refl wk.heap.size wk).alloc (Nat.le_refl _) _).drew;refine hK.out _ _ (hKS.out _ bB) ?_;clear hK K;refine Ac (f:=5) (rs:=[0]) (by kernel_rfl) (by simp) ?_;refine Ad.cons rfl (by decide) (fun K hK=>?_) Ad.nil;go_simp;have b7:Below wk.heap.size wk ((wk.alloc (.cells #[.string xk,.string xn,.slice xa nx xc] 46)).alloc (.cells #[] 46)).drew:=(((Below.refl wk.heap.size wk).alloc (Nat.le_refl _) _).alloc (by simp) _).drew;have o7:((wk.alloc (.cells #[.string xk,.string xn,.slice xa nx xc] 46)).alloc (.cells #[] 46)).drew.ownsRow wk.heap.size 46 3 (.slice (some ⟨wk.heap.size+1,0,none⟩) 0 0) 0 []:=by
      have:=World.ownsRow_lit (base:=wk.heap.size) (e:=46) (size:=3) (wk.alloc (.cells #[.string xk,.string xn,.slice xa nx xc] 46)) #[] 0 (by simp) (by decide) rfl;rw[World.size_alloc]at this;exact this
     have h7:An ((wk.alloc (.cells #[.string xk,.string xn,.slice xa nx xc] 46)).alloc (.cells #[] 46)).drew (.slice (some ⟨wk.heap.size,0,none⟩) 1 1) 1 3 [.string xk,.string xn,.slice xa nx xc]:=(Cj wk #[.string xk,.string xn,.slice xa nx xc] 46 3 rfl).below ((Below.refl _ _).alloc (Nat.le_refl _) _).drew;refine hK.out _ _ (hKS.out _ b7) ?_;clear hK K;refine Ac (f:=4) (rs:=[5]) (by kernel_rfl) (by simp) ?_;refine Ad.cons rfl (by decide) (fun K hK=>?_) Ad.nil;refine A4 rfl _ _ 23 rfl wk.heap.size 46 i0 _ 3 56 Tryz.underlying23 hi hi0 hi1 hi2 rfl (by decide) _ 0 _ rfl o7 _ D.length _ rfl (hDrow.out.below b7) hD1.out (by unfold maxLen;omega) (by omega) b7.size ?_;intro ao5 c5 U own7 hg5 _;simp only[Nat.zero_add]at own7 ⊢;have bU:=b7.grown hg5 b7.size (fun q hq=>by cases hq;show wk.heap.size≤wk.heap.size+1;omega);have has7:=h7.far (.inr (fun b off m c e=>by cases e;show wk.heap.size≠wk.heap.size+1;omega)) hg5;refine hK.out _ _ (hKS.out _ bU) ?_;clear hK K o7 h7 hg5 b7 bB
    all_goals
     refine Ac (f:=3) (rs:=[8]) (by kernel_rfl) (by simp) ?_;refine Ad.cons rfl (by decide) (fun K hK=>?_) Ad.nil;have hbase5:∀ q,(Value.slice ao5 (D.length) c5).ownBlock=some q→wk.heap.size≤q:=fun q hq=>(own7.lt q hq).1
     refine A4 rfl _ _ 23 rfl wk.heap.size 46 i0 _ 3 56 Tryz.underlying23 hi hi0 hi1 hi2 rfl (by decide) _ (D.length) _ rfl own7 _ 1 _ rfl has7 (by intro z hz;simp at hz;rcases hz with rfl | rfl | rfl <;> rfl) (by unfold maxLen;omega) (by omega) bU.size ?_
     intro ao8 c8 u8 own8 hg8 _;have b8:=bU.grown hg8 bU.size hbase5;refine hK.out _ _ (hKS.out _ b8) ?_;clear hK K;refine Ac (f:=2) (rs:=[13]) (by kernel_rfl) (by simp) ?_;refine Ad.cons rfl (by decide) (fun K hK=>?_) Ad.nil;have hbase8:∀ q,(Value.slice ao8 (D.length+1) c8).ownBlock=some q→wk.heap.size≤q:=fun q hq=>(own8.lt q hq).1
     refine A4 rfl _ _ 23 rfl wk.heap.size 46 i0 _ 3 56 Tryz.underlying23 hi hi0 hi1 hi2 rfl (by decide) _ (D.length+1) _ rfl own8 _ (len - D.length) _ rfl (hTrow.out.below b8) hT1.out (by unfold maxLen;omega) (by omega) b8.size ?_;intro ao9 c9 u9 own9 hg9 _;have b9:=b8.grown hg9 b8.size hbase8;refine hK.out _ _ (hKS.out _ b9) ?_;clear hK K own7 has7 own8 hg8 hg9 hbase5 hbase8 b8 bU;refine Ac (f:=1) (rs:=[14]) (by kernel_rfl) (by simp) ?_;refine Ad.cons rfl (by decide) (fun K hK=>?_) Ad.nil;go_simp;refine hK.out _ _ (hKS.out _ b9) ?_;clear hK K;have z09:=(b9.block w.heap.size (by have:=bk'.size;omega)).trans z0k;have z29:=(b9.block (w.heap.size+2) (by have:=bk'.size;omega)).trans z2k;have m0:=Ab z09 0;have fr2:=Ag z09 0;simp only[List.getElem?_toArray,List.getElem?_cons_zero]at m0;refine A5 (by kernel_rfl) rfl (by kernel_rfl) ?_;intro K hK;have hkz:w.heap.size+3≤wk.heap.size:=by have:=bk'.size;omega
     have G9:=gk.trans (b9.mono (by omega));have O9:=Aa own9;have z2s:(u9.setCell ⟨w.heap.size,0,none⟩ (.slice ao9 (D.length+1+(len - D.length)) c9)).heap[w.heap.size+2]?=some (.cells #[.slice none 0 0] 25 (0,0)):=by rw[Below.heap_setCell _ _ _ _ (by simp)];exact z29
     clear own9;generalize hN9:D.length+1+(len - D.length)=N9 at *;have eN9:=Aa hN9;clear hN9;go_simp;refine hK.out _ _ (NoPanic.normal ?_);clear hK K;go_wp2_with (with_reducible show wpList _ _ _ (Oper.mk _ (Op.store _ (Operand.tmp 4) _) _ _ _ _::_) _ _;refine wpList_store_row rfl 25 _ _ rfl (w.heap.size+2) #[.slice ao9 N9 c9] ?_ ?_ 25 _ z2s ?_ ?_ ?_ ?_)
     all_goals (first | rfl | kernel_rfl | exact A7 | skip)
     have z5:(World.setRow (u9.setCell ⟨w.heap.size,0,none⟩ (.slice ao9 N9 c9)) (w.heap.size+2) #[.slice ao9 N9 c9]).heap[w.heap.size+2]?=some (.cells #[.slice ao9 N9 c9] 25 (0,0)):=setRow_heap _ _ _ _ _ _ z2s;have G9':=G9.setCell (p:=⟨w.heap.size,0,none⟩) (Nat.le_refl _) (.slice ao9 N9 c9)
     have b5:Below w.heap.size w (World.setRow (u9.setCell ⟨w.heap.size,0,none⟩ (.slice ao9 N9 c9)) (w.heap.size+2) #[.slice ao9 N9 c9]) :=
      ⟨G9'.os,G9'.tape,G9'.output,by rw[setRow_size];exact G9'.size,fun k hk=>by rw[setRow_other _ _ _ _ (by omega)];exact G9'.block k hk⟩
     have o5:=Ec (Jr (Cl O9.out ⟨w.heap.size,0,none⟩ (by simp;omega) (.slice ao9 N9 c9)) (w.heap.size+2) (by omega) #[.slice ao9 N9 c9]) (show w.heap.size≤wk.heap.size by omega);have y0:=Ab z5 0;simp only[List.getElem?_toArray,List.getElem?_cons_zero]at y0;generalize World.setRow _ _ _=W at b5 y0 z5 o5 ⊢;have f1:(D++(⟨xk,xn,.slice xa nx xc,xl⟩:BAt)::T).map BAt.plain=Dd blockLt ⟨xk,xn,xl.map LAt.plain⟩ (bl.map BAt.plain):=by
      have h1:=Iz blockLt ⟨xk,xn,xl.map LAt.plain⟩ (D.map BAt.plain) (T.map BAt.plain) hlt.out hst.out;rw[show (bl.map BAt.plain)=D.map BAt.plain++T.map BAt.plain from by rw[hDT.out];simp];exact(show _=_ from by simp[BAt.plain]).trans h1.symm
     have f2:W.ownsRow w.heap.size 46 3 (.slice ao9 N9 c9) (D++(⟨xk,xn,.slice xa nx xc,xl⟩:BAt)::T).length ((D++(⟨xk,xn,.slice xa nx xc,xl⟩:BAt)::T).flatMap BAt.cells):=by
      have e1:(D++(⟨xk,xn,.slice xa nx xc,xl⟩:BAt)::T).length=N9:=by
       have h1:=en.out;rw[hDT.out]at h1;rw[← eN9.out];simp at h1 ⊢;omega
      have e2:(D++(⟨xk,xn,.slice xa nx xc,xl⟩:BAt)::T).flatMap BAt.cells=[]++D.flatMap BAt.cells++[.string xk,.string xn,.slice xa nx xc]++T.flatMap BAt.cells:=by simp[BAt.cells]
      rw[e1,e2];exact o5
     exact bodyPost_ret (v:=.agg #[.slice ao9 N9 c9]) (by simp[results,Tryz.results54,go_sem,y0]) rfl ⟨_,D,T,hDT.out,rfl,f1,f2,b5⟩
   ·obtain⟨y,T',rfl,hyl⟩:=hB.out.1 rfl;have hDT':Hid (bl=(D++[y])++T'):=by have:=hDT.out;show bl=_;rw[this];simp
    have hlt':Hid (∀ z∈(D++[y]).map BAt.plain,blockLt z ⟨xk,xn,xl.map LAt.plain⟩=true):=by
     show ∀ z∈_,_
     intro z hz;rw[List.map_append,List.mem_append]at hz;rcases hz with hz | hz
     ·exact hlt.out z hz
     ·simp only[List.map_cons,List.map_nil,List.mem_singleton]at hz;rw[hz];exact hyl
    have hDl2:D.length<len:=by have:=en.out;rw[hDT.out]at this;simp at this;omega
    clear hB v2 u0 u1 u2 HBS hDT hlt hyl z0 z1 z2;go_wp2;go_roundw;case rel=>exact⟨D++[y],T',by simp,by simp;omega,hDT',hlt',BK⟩
    case measure=>simp[intOf];omega
variable {p q:Nat}{w':World}{v:Value}{bs:List BAt}{ls:List LAt}
theorem Bu{a:World}(h:Below B a w)(hB:B≤w.heap.size)(hp:B≤p)(g:w.grownBy w' (some p)):Below B a w' :=
 h.grown g hB (fun k hk=>by simp at hk;omega)
theorem Bx(W:World)(R:Nat)(cs:Array Value):W.grownBy (W.setRow R cs) (some R):=⟨rfl,rfl,rfl,by rw[setRow_size];exact Nat.le_refl _,fun i _ hi=>setRow_other _ _ _ _ (fun e=>hi (by rw[e]))⟩
def Ahm(R:List Plain)(b:BAt)(x:LAt)(w:World)(e:Ending)(w':World):Prop:=∃ a n c ls',e=.returned (.agg #[.string b.kind,.string b.name,.slice a n c])∧(ls'.map LAt.plain=Dd (lineLt R) x.plain (b.ls.map LAt.plain)∧ls'.length=b.ls.length+1∧(∀ y∈ls',y=x∨y∈b.ls)∧Ah w' (.slice a n c) ls'∧∀ q,q<w.heap.size→Aj q b.v b.ls→Cr q x.v x.ws.length→Aj q (.slice a n c) ls')∧Below w.heap.size w w'
theorem Li{b:BAt}{x:LAt}(hb:Cb w b)(hs:Ae b.ls)(hx:Dm w x)(hxs:x.ws.length≤1048576):Calls Tryz.prog 86 #[.agg #[.string b.kind,.string b.name,b.v],.agg #[.string x.key,x.v]] w fun e w'=>Ahm (rulesOf b.kind) b x w e w':=by
 refine(Rl hb hs hx hxs).mono ?_;rintro e w' ⟨v',D,T,hDT,rfl,hp,ho,bb⟩;obtain⟨a,c,rfl,_⟩:=Ai ho;have hm:∀ y∈D++x::T,y=x∨y∈b.ls:=by
  intro y hy;rw[hDT];simp only[List.mem_append,List.mem_cons]at hy ⊢;rcases hy with hy | rfl | hy
  ·exact .inr (.inl hy)
  ·exact .inl rfl
  ·exact .inr (.inr hy)
 refine⟨a,_,c,D++x::T,rfl,⟨hp,by rw[hDT];simp;omega,hm,⟨Bo ho,fun y hy=>?_⟩,fun q hq hf hxf=>⟨Cr.above ho hq,fun y hy=>?_⟩⟩,bb⟩
 ·rcases hm y hy with rfl | hy
  ·exact hx.below bb
  ·exact(hb.2 y hy).below bb
 ·rcases hm y hy with rfl | hy
  ·exact hxf
  ·exact hf.2 y hy
def Bk(q:Nat)(v:Value)(bs:List BAt):Prop:=Cr q v bs.length∧∀ x∈bs,Aj q x.v x.ls
theorem Aw.far(h:Aw w v bs)(hf:Bk q v bs)(hg:w.grownBy w' (some q)):Aw w' v bs:=⟨h.1.far hf.1 hg,fun x hx=>Ah.far (h.2 x hx) (hf.2 x hx) hg⟩
theorem As.far(h:As B w v bs)(hq:q<B):Bk q v bs :=
 ⟨Cr.above h.row hq,fun x hx=>⟨Cr.above (h.lines x hx).row hq,fun y hy=>Cr.above ((h.lines x hx).words y hy) hq⟩⟩
def Tm(v:Value)(bs:List BAt)(x:BAt)(w:World)(e:Ending)(w':World):Prop:=∃ a n c bs',e=.returned (.agg #[.slice a n c])∧(bs'.map BAt.plain=Dd blockLt x.plain (bs.map BAt.plain)∧bs'.length=bs.length+1∧(∀ y∈bs',y=x∨y∈bs)∧Aw w' (.slice a n c) bs'∧∀ q,q<w.heap.size→Bk q v bs→Aj q x.v x.ls→Bk q (.slice a n c) bs')∧Below w.heap.size w w'
theorem C7{x:BAt}(hb:Aw w v bs)(hl:bs.length≤1048576)(hx:Cb w x):Calls Tryz.prog 54 #[.agg #[v],.agg #[.string x.kind,.string x.name,x.v]] w fun e w'=>Tm v bs x w e w':=by
 refine(Kp hb.1 (fun y hy=>by obtain⟨a,c,e⟩:=(hb.2 y hy).1.form;exact⟨a,_,c,e⟩) hl (by obtain⟨a,c,e⟩:=hx.1.form;exact⟨a,_,c,e⟩)).mono ?_;rintro e w' ⟨v',D,T,hDT,rfl,hp,ho,bb⟩;obtain⟨a,c,rfl,_⟩:=Ai ho;have hm:∀ y∈D++x::T,y=x∨y∈bs:=by
  intro y hy;rw[hDT];simp only[List.mem_append,List.mem_cons]at hy ⊢;rcases hy with hy | rfl | hy
  ·exact .inr (.inl hy)
  ·exact .inl rfl
  ·exact .inr (.inr hy)
 refine⟨a,_,c,D++x::T,rfl,⟨hp,by rw[hDT];simp;omega,hm,⟨Bo ho,fun y hy=>?_⟩,fun q hq hf hxf=>⟨Cr.above ho hq,fun y hy=>?_⟩⟩,bb⟩
 ·rcases hm y hy with rfl | hy
  ·exact Ah.below hx bb
  ·exact Ah.below (hb.2 y hy) bb
 ·rcases hm y hy with rfl | hy
  ·exact hxf
  ·exact hf.2 y hy
theorem Ah.fresh(h:Ah w v ls)(hq:w.heap.size≤q):Aj q v ls:=⟨Cr.of_lt h.1 (by decide) hq,fun y hy=>Cr.of_lt (h.2 y hy) (by decide) hq⟩
variable {W W0:World}{X O i b0 off c xc:Nat}{v':Value}{Q:Exit → Act → World → Prop}{a:Act}{kind name:ByteArray}{xa:Option Addr}
theorem C8(W:World)(g j:Nat)(u:Value):W.grownBy (W.setCell ⟨g,j,none⟩ u) (some g):=⟨rfl,rfl,rfl,by simp,fun i _ hi=>heap_setCell_other W ⟨g,j,none⟩ i _ (fun e=>hi (by simp[e]))⟩
theorem Xa{k n k' n':ByteArray}(h:W.heap[X]?=some (.cells #[.string k,.string n,v] 46 (0,0))):(((W.setCell ⟨X,0,none⟩ (.string k')).setCell ⟨X,1,none⟩ (.string n')).setCell ⟨X,2,none⟩ v').heap[X]?=some (.cells #[.string k',.string n',v'] 46 (0,0))∧W.grownBy (((W.setCell ⟨X,0,none⟩ (.string k')).setCell ⟨X,1,none⟩ (.string n')).setCell ⟨X,2,none⟩ v') (some X):=by
 have z1:(W.setCell ⟨X,0,none⟩ (.string k')).heap[X]?=some (.cells #[.string k',.string n,v] 46 (0,0)):=by rw[heap_setCell_same W X 0 _ _ _ h];rfl
 have z2:((W.setCell ⟨X,0,none⟩ (.string k')).setCell ⟨X,1,none⟩ (.string n')).heap[X]?=some (.cells #[.string k',.string n',v] 46 (0,0)):=by rw[heap_setCell_same _ X 1 _ _ _ z1];rfl
 refine⟨?_,A1 (C8 W X 0 _) (A1 (C8 _ X 1 _) (C8 _ X 2 _))⟩;rw[heap_setCell_same _ X 2 _ _ _ z2];rfl
def OvF(_X O i b0 off n c:Nat)(kind name key:ByteArray)(bv xv:Value)(J:Value→World→Prop)(j:Nat)(x:Value)(W:World):Prop:=match j with
 | 0=>x=.agg #[.string kind,.string name,bv]
 | 1=>x=.pointer (some ⟨O,2,none⟩)
 | 2=>x=.slice (some ⟨b0,off,none⟩) n c
 | 3=>x=.int .i64 (i:Int)
 | 4=>x=.pointer (some ⟨b0,off+i * 2,none⟩)
 | 5=>x=.agg #[.string key,xv]
 | 6=>∃ a m cc,x=.agg #[.string kind,.string name,.slice a m cc]∧J (.slice a m cc) W
 | _=>True
def Tn: Oper := { dst := some 20, op := Op.load 46 (Operand.tmp 5), type := 46, pos := "l6_over.go:9", after := #[], guard := none }
def Tp: Oper := { dst := some 21, op := Op.fieldAddr 46 (Operand.tmp 3) 2, type := 0, pos := "l6_over.go:9", after := #[], guard := none }
def Tq: Oper := { dst := some 22, op := Op.load 44 (Operand.tmp 21), type := 44, pos := "l6_over.go:9", after := #[{ on := 1, ground := Ground.data }], guard := none }
def Tr: Oper := { dst := some 23, op := Op.move (Operand.tmp 6), type := 3, pos := "l6_over.go:9", after := #[], guard := none }
def Ts: Oper := { dst := some 24, op := Op.indexAddr 44 (Operand.tmp 22) (Operand.tmp 23), type := 0, pos := "l6_over.go:9", after := #[{ on := 2, ground := Ground.data }, { on := 3, ground := Ground.data }], guard := none }
def Tt: Oper := { dst := some 25, op := Op.load 115 (Operand.tmp 24), type := 115, pos := "l6_over.go:9", after := #[{ on := 4, ground := Ground.data }], guard := none }
def Tu: Oper := { dst := some 26, op := Op.call { callee := Callee.value (Operand.func 86), args := #[Operand.tmp 20, Operand.tmp 25], argTypes := #[46, 115] }, type := 46, pos := "l6_over.go:9", after := #[{ on := 0, ground := Ground.data }, { on := 5, ground := Ground.data }], guard := none }
def Tv: Oper := { dst := none, op := Op.store 46 (Operand.tmp 5) (Operand.tmp 26), type := 0, pos := "l6_over.go:9", after := #[{ on := 6, ground := Ground.data }, { on := 6, ground := Ground.chain }, { on := 0, ground := Ground.phase }, { on := 1, ground := Ground.phase }, { on := 2, ground := Ground.phase }, { on := 3, ground := Ground.phase }, { on := 4, ground := Ground.phase }, { on := 5, ground := Ground.phase }, { on := 6, ground := Ground.phase }], guard := none }
def Aic:List Oper:=[Tn,Tp,Tq,Tr,Ts,Tt,Tu,Tv]
def Ov: Oper := { dst := some 44, op := Op.load 46 (Operand.tmp 5), type := 46, pos := "l6_over.go:13", after := #[], guard := none }
def Ow: Oper := { dst := some 45, op := Op.fieldAddr 46 (Operand.tmp 2) 2, type := 0, pos := "l6_over.go:13", after := #[], guard := none }
def Ox: Oper := { dst := some 46, op := Op.load 44 (Operand.tmp 45), type := 44, pos := "l6_over.go:13", after := #[{ on := 1, ground := Ground.data }], guard := none }
def Oy: Oper := { dst := some 47, op := Op.move (Operand.tmp 7), type := 3, pos := "l6_over.go:13", after := #[], guard := none }
def Oz: Oper := { dst := some 48, op := Op.indexAddr 44 (Operand.tmp 46) (Operand.tmp 47), type := 0, pos := "l6_over.go:13", after := #[{ on := 2, ground := Ground.data }, { on := 3, ground := Ground.data }], guard := none }
def O0: Oper := { dst := some 49, op := Op.load 115 (Operand.tmp 48), type := 115, pos := "l6_over.go:13", after := #[{ on := 4, ground := Ground.data }], guard := none }
def O1: Oper := { dst := some 50, op := Op.call { callee := Callee.value (Operand.func 86), args := #[Operand.tmp 44, Operand.tmp 49], argTypes := #[46, 115] }, type := 46, pos := "l6_over.go:13", after := #[{ on := 0, ground := Ground.data }, { on := 5, ground := Ground.data }], guard := none }
def O3: Oper := { dst := none, op := Op.store 46 (Operand.tmp 5) (Operand.tmp 50), type := 0, pos := "l6_over.go:13", after := #[{ on := 6, ground := Ground.data }, { on := 6, ground := Ground.chain }, { on := 0, ground := Ground.phase }, { on := 1, ground := Ground.phase }, { on := 2, ground := Ground.phase }, { on := 3, ground := Ground.phase }, { on := 4, ground := Ground.phase }, { on := 5, ground := Ground.phase }, { on := 6, ground := Ground.phase }], guard := none }
def Ahn:List Oper:=[Ov,Ow,Ox,Oy,Oz,O0,O1,O3]
def Tw: Oper := { dst := some 34, op := Op.load 46 (Operand.tmp 3), type := 46, pos := "l6_over.go:12", after := #[], guard := none }
def Tx: Oper := { dst := some 35, op := Op.fieldAddr 46 (Operand.tmp 2) 2, type := 0, pos := "l6_over.go:12", after := #[], guard := none }
def Ty: Oper := { dst := some 36, op := Op.load 44 (Operand.tmp 35), type := 44, pos := "l6_over.go:12", after := #[{ on := 1, ground := Ground.data }], guard := none }
def Tz: Oper := { dst := some 37, op := Op.move (Operand.tmp 7), type := 3, pos := "l6_over.go:12", after := #[], guard := none }
def T0: Oper := { dst := some 38, op := Op.indexAddr 44 (Operand.tmp 36) (Operand.tmp 37), type := 0, pos := "l6_over.go:12", after := #[{ on := 2, ground := Ground.data }, { on := 3, ground := Ground.data }], guard := none }
def T1: Oper := { dst := some 39, op := Op.fieldAddr 115 (Operand.tmp 38) 0, type := 0, pos := "l6_over.go:12", after := #[{ on := 4, ground := Ground.data }], guard := none }
def T3: Oper := { dst := some 40, op := Op.load 9 (Operand.tmp 39), type := 9, pos := "l6_over.go:12", after := #[{ on := 5, ground := Ground.data }], guard := none }
def T4: Oper := { dst := some 41, op := Op.call { callee := Callee.value (Operand.func 89), args := #[Operand.tmp 34, Operand.tmp 40], argTypes := #[46, 9] }, type := 44, pos := "l6_over.go:12", after := #[{ on := 0, ground := Ground.data }, { on := 6, ground := Ground.data }], guard := none }
def Zk: Oper := { dst := some 42, op := Op.call { callee := Callee.builtin Builtin.len, args := #[Operand.tmp 41], argTypes := #[44] }, type := 3, pos := "l6_over.go:12", after := #[{ on := 7, ground := Ground.data }], guard := none }
def Zl: Oper := { dst := some 43, op := Op.binOp BinOp.eql 3 (Operand.tmp 42) (Operand.const (Value.int IntKind.i64 0)) 3, type := 4, pos := "l6_over.go:12", after := #[{ on := 8, ground := Ground.data }], guard := none }
def Aid:List Oper:=[Tw,Tx,Ty,Tz,T0,T1,T3,T4,Zk,Zl]
theorem Ad2{bn bc xn:Nat}{key:ByteArray}{ba:Option Addr}(P:World→Value→World→Prop)(hX0:W0.heap[X]?=some (.cells #[.string kind,.string name,(.slice ba bn bc)] 46 (0,0)))(hO0:W0.cell? ⟨O,2,none⟩=some (.slice (some ⟨b0,off,none⟩) n c))(hc0:W0.cell? ⟨b0,off+i * 2,none⟩=some (.string key))(hc1:W0.cell? ⟨b0,off+i * 2+1,none⟩=some (.slice xa xn xc))(hi:i<n)(HP:∀ W,Below W0.heap.size W0 W→Calls Tryz.prog 86 #[.agg #[.string kind,.string name,(.slice ba bn bc)],.agg #[.string key,(.slice xa xn xc)]] W fun e w'=>∃ q m cc,e=.returned (.agg #[.string kind,.string name,.slice q m cc])∧P W (.slice q m cc) w'∧Below W.heap.size W w')
  (hsX:a.eval (.tmp 5)=.pointer (some ⟨X,0,none⟩)) (hsO:a.eval (.tmp 3)=.pointer (some ⟨O,0,none⟩)) (hsI:a.eval (.tmp 6)=.int .i64 (i:Int)) (hsz:a.tmps.size=52)
  (hQ:∀ v a' q m cc W1 W2,a'=Aq a [20,21,22,23,24,25,26] v→Below W0.heap.size W0 W1→P W1 (.slice q m cc) W2→Below W1.heap.size W1 W2→Q .normal a' (((W2.setCell ⟨X,0,none⟩ (.string kind)).setCell ⟨X,1,none⟩ (.string name)).setCell ⟨X,2,none⟩ (.slice q m cc))):(Code.region 5 Aic.toArray true).wp Tryz.prog Q a W0:=by
 have hnd:([20,21,22,23,24,25,26]:List Nat).Nodup:=by decide
 have i3:(0:Int)≤(i:Int):=by omega
 have i4:(i:Int)<(n:Int):=by omega
 refine Co [20,21,22,23,24,25,26] (OvF X O i b0 off n c kind name key (.slice ba bn bc) (.slice xa xn xc) (fun v W=>∃ W1,Below W0.heap.size W0 W1∧P W1 v W∧Below W1.heap.size W1 W)) (fun _ W=>W.heap[X]?=some (.cells #[.string kind,.string name,(.slice ba bn bc)] 46 (0,0))∧W.cell? ⟨O,2,none⟩=some (.slice (some ⟨b0,off,none⟩) n c)∧W.cell? ⟨b0,off+i * 2,none⟩=some (.string key)∧W.cell? ⟨b0,off+i * 2+1,none⟩=some (.slice xa xn xc)∧Below W0.heap.size W0 W) 7 8 [0,1,2,3,4,5,6,7] (by kernel_rfl) rfl (by decide) (by kernel_rfl) ?h1 ⟨hX0,hO0,hc0,hc1,(Below.refl _ _).drew⟩ ?hall;case h1 =>
  intro i x W hi;unfold OvF;split <;> first | omega | trivial
 refine Am.consQ (o:=Tn) [] (by kernel_rfl) (by decide) (by kernel_rfl) rfl ?o0 (Am.consQ (o:=Tp) [] (by kernel_rfl) (by decide) (by kernel_rfl) rfl ?o1 (Am.consQ (o:=Tq) [1] (by kernel_rfl) (by decide) (by kernel_rfl) rfl ?o2 (Am.consQ (o:=Tr) [] (by kernel_rfl) (by decide) (by kernel_rfl) rfl ?o3 (Am.consQ (o:=Ts) [2,3] (by kernel_rfl) (by decide) (by kernel_rfl) rfl ?o4 (Am.consQ (o:=Tt) [4] (by kernel_rfl) (by decide) (by kernel_rfl) rfl ?o5 (Am.consQ (o:=Tu) [0,5] (by kernel_rfl) (by decide) (by kernel_rfl) rfl ?o6 (Am.lastQ (o:=Tv) [6,6,0,1,2,3,4,5,6] (by kernel_rfl) (by kernel_rfl) rfl ?o7)))))));case o0 =>
  rintro Q' L _ W h0L hpre ⟨v,rfl,hv,hX,hO,c0,c1,hb⟩ K hK;have g0:=Ab hX 0;have g1:=Ab hX 1;have g2:=Ab hX 2;simp only[List.getElem?_toArray,List.getElem?_cons_zero,List.getElem?_cons_succ]at g0 g1 g2;have r5:=(Bj (v:=v) (show 5 ∉ ([20,21,22,23,24,25,26]:List Nat) by decide)).trans hsX;have he : execOp (Aq a [20, 21, 22, 23, 24, 25, 26] v).eval Tn = execOp (Act.eval ⟨#[undef], []⟩) ⟨some 0, .load 46 (.const (.pointer (some ⟨X, 0, none⟩))), 0, "", #[], none⟩ := by simp only[execOp, Af, Tn, r5]
  refine Df.mk ?_;unfold Oper.wp;rw[he];clear he;go_simp;exact hK.out _ _ (Bm.nextL (W:=W) hv 0 (.agg #[.string kind,.string name,(.slice ba bn bc)]) (Az 0 hnd rfl) (fun _ _ _ h=>h) rfl ⟨hX,hO,c0,c1,hb⟩)
 case o1 =>
  rintro Q' L _ W h0L hpre ⟨v,rfl,hv,hX,hO,c0,c1,hb⟩ K hK;have r3:=(Bj (v:=v) (show 3 ∉ ([20,21,22,23,24,25,26]:List Nat) by decide)).trans hsO;have he : execOp (Aq a [20, 21, 22, 23, 24, 25, 26] v).eval Tp = execOp (Act.eval ⟨#[undef], []⟩) ⟨some 0, .fieldAddr 46 (.const (.pointer (some ⟨O, 0, none⟩))) 2, 0, "", #[], none⟩ := by simp only[execOp, Af, Tp, r3]
  refine Df.mk ?_;unfold Oper.wp;rw[he];clear he;go_simp;exact hK.out _ _ (Bm.nextL (W:=W) hv 1 (.pointer (some ⟨O,2,none⟩)) (Az 1 hnd rfl) (fun _ _ _ h=>h) rfl ⟨hX,hO,c0,c1,hb⟩)
 case o2 =>
  rintro Q' L _ W h0L hpre ⟨v,rfl,hv,hX,hO,c0,c1,hb⟩ K hK;have r21:(Aq a [20,21,22,23,24,25,26] v).eval (.tmp 21)=_:=(Au 1 hnd rfl (by omega)).trans (hv 1 (hpre 1 (by simp)));have he : execOp (Aq a [20, 21, 22, 23, 24, 25, 26] v).eval Tq = execOp (Act.eval ⟨#[undef], []⟩) ⟨some 0, .load 44 (.const (.pointer (some ⟨O, 2, none⟩))), 0, "", #[], none⟩ := by simp only[execOp, Af, Tq, r21]
  refine Df.mk ?_;unfold Oper.wp;rw[he];clear he;go_simp;exact hK.out _ _ (Bm.nextL (W:=W) hv 2 (.slice (some ⟨b0,off,none⟩) n c) (Az 2 hnd rfl) (fun _ _ _ h=>h) rfl ⟨hX,hO,c0,c1,hb⟩)
 case o3 =>
  rintro Q' L _ W h0L hpre ⟨v,rfl,hv,hX,hO,c0,c1,hb⟩ K hK;have r6:=(Bj (v:=v) (show 6 ∉ ([20,21,22,23,24,25,26]:List Nat) by decide)).trans hsI;have he : execOp (Aq a [20, 21, 22, 23, 24, 25, 26] v).eval Tr = execOp (Act.eval ⟨#[undef], []⟩) ⟨some 0, .move (.const (.int .i64 (i : Int))), 0, "", #[], none⟩ := by simp only[execOp, Af, Tr, r6]
  refine Df.mk ?_;unfold Oper.wp;rw[he];clear he;go_simp;exact hK.out _ _ (Bm.nextL (W:=W) hv 3 (.int .i64 (i:Int)) (Az 3 hnd rfl) (fun _ _ _ h=>h) rfl ⟨hX,hO,c0,c1,hb⟩)
 case o4 =>
  rintro Q' L _ W h0L hpre ⟨v,rfl,hv,hX,hO,c0,c1,hb⟩ K hK;have r22:(Aq a [20,21,22,23,24,25,26] v).eval (.tmp 22)=_:=(Au 2 hnd rfl (by omega)).trans (hv 2 (hpre 2 (by simp)));have r23:(Aq a [20,21,22,23,24,25,26] v).eval (.tmp 23)=_:=(Au 3 hnd rfl (by omega)).trans (hv 3 (hpre 3 (by simp)));have he : execOp (Aq a [20, 21, 22, 23, 24, 25, 26] v).eval Ts = execOp (Act.eval ⟨#[undef], []⟩) ⟨some 0, .indexAddr 44 (.const (.slice (some ⟨b0, off, none⟩) n c)) (.const (.int .i64 (i : Int))), 0, "", #[], none⟩ := by simp only[execOp, Af, Ts, r22, r23]
  refine Df.mk ?_;unfold Oper.wp;rw[he];clear he;go_simp;exact hK.out _ _ (Bm.nextL (W:=W) hv 4 (.pointer (some ⟨b0,off+i * 2,none⟩)) (Az 4 hnd rfl) (fun _ _ _ h=>h) rfl ⟨hX,hO,c0,c1,hb⟩)
 case o5 =>
  rintro Q' L _ W h0L hpre ⟨v,rfl,hv,hX,hO,c0,c1,hb⟩ K hK;have r24:(Aq a [20,21,22,23,24,25,26] v).eval (.tmp 24)=_:=(Au 4 hnd rfl (by omega)).trans (hv 4 (hpre 4 (by simp)));have he : execOp (Aq a [20, 21, 22, 23, 24, 25, 26] v).eval Tt = execOp (Act.eval ⟨#[undef], []⟩) ⟨some 0, .load 115 (.const (.pointer (some ⟨b0, off + i * 2, none⟩))), 0, "", #[], none⟩ := by simp only[execOp, Af, Tt, r24]
  refine Df.mk ?_;unfold Oper.wp;rw[he];clear he;go_simp;exact hK.out _ _ (Bm.nextL (W:=W) hv 5 (.agg #[.string key,(.slice xa xn xc)]) (Az 5 hnd rfl) (fun _ _ _ h=>h) rfl ⟨hX,hO,c0,c1,hb⟩)
 case o6 =>
  rintro Q' L _ W h0L hpre ⟨v,rfl,hv,hX,hO,c0,c1,hb⟩ K hK;have r20:(Aq a [20,21,22,23,24,25,26] v).eval (.tmp 20)=_:=(Au 0 hnd rfl (by omega)).trans (hv 0 (hpre 0 (by simp)));have r25:(Aq a [20,21,22,23,24,25,26] v).eval (.tmp 25)=_:=(Au 5 hnd rfl (by omega)).trans (hv 5 (hpre 5 (by simp)));have HPW:=HP W hb;have he : execOp (Aq a [20, 21, 22, 23, 24, 25, 26] v).eval Tu = execOp (Act.eval ⟨#[undef], []⟩) ⟨some 0, .call { callee := .value (.func 86), args := #[.const (.agg #[.string kind, .string name, (.slice ba bn bc)]), .const (.agg #[.string key, (.slice xa xn xc)])], argTypes := #[46, 115] }, 0, "", #[], none⟩ := by simp only[execOp, Af, Tu, resolve, Eo, List.map_toArray, List.map_cons, List.map_nil, r20, r25]
  refine Df.mk ?_;unfold Oper.wp;rw[he];clear he;go_simp;refine HPW.mono ?_;rintro e W' ⟨q,m,cc,rfl,hP,b'⟩;refine hK.out _ _ (Bm.nextL (W:=W) hv 6 (.agg #[.string kind,.string name,.slice q m cc]) (Az 6 hnd rfl) (fun j y hj h=>?_) ⟨q,m,cc,rfl,W,hb,hP,b'⟩ ⟨(b'.block X (Array.getElem?_eq_some_iff.1 hX).1).trans hX,(b'.cell (World.block_lt_of_cell? _ _ hO)).trans hO,(b'.cell (World.block_lt_of_cell? _ _ c0)).trans c0,(b'.cell (World.block_lt_of_cell? _ _ c1)).trans c1,hb.trans (b'.mono hb.size)⟩);have h6:j≠6:=fun e=>by rw[e,h0L]at hj;cases hj
  unfold OvF at *;split <;> simp only at h
  all_goals first | exact h | exact absurd rfl h6 | trivial
 case o7 =>
  rintro Q' L _ W h0L hpre ⟨v,rfl,hv,hX,hO,c0,c1,hb⟩ K hK;obtain⟨q,m,cc,e6,W1,hb1,hP,hb2⟩:=hv 6 (hpre 6 (by simp));have r26:(Aq a [20,21,22,23,24,25,26] v).eval (.tmp 26)=_:=(Au 6 hnd rfl (by omega)).trans e6;have r5:=(Bj (v:=v) (show 5 ∉ ([20,21,22,23,24,25,26]:List Nat) by decide)).trans hsX;have g0:=Ab hX 0;have g1:=Ab hX 1;have g2:=Ab hX 2;simp only[List.getElem?_toArray,List.getElem?_cons_zero,List.getElem?_cons_succ]at g0 g1 g2;have f0:=Ag hX 0;have f1:=Ag hX 1;have f2:=Ag hX 2;have HQ:=Aa (hQ v _ q m cc W1 W rfl hb1 hP hb2);have he : execOp (Aq a [20, 21, 22, 23, 24, 25, 26] v).eval Tv = execOp (Act.eval ⟨#[undef], []⟩) ⟨some 0, .store 46 (.const (.pointer (some ⟨X, 0, none⟩))) (.const (.agg #[.string kind, .string name, .slice q m cc])), 0, "", #[], none⟩ := by simp only[execOp, Af, Tv, r5, r26]
  refine Df.mk ?_;unfold Oper.wp;rw[he];clear he;go_simp;exact hK.out _ _ (NoPanic.normal HQ.out)
theorem Ab7{bn bc xn:Nat}{key:ByteArray}{ba:Option Addr}(P:World→Value→World→Prop)(hX0:W0.heap[X]?=some (.cells #[.string kind,.string name,(.slice ba bn bc)] 46 (0,0)))(hO0:W0.cell? ⟨O,2,none⟩=some (.slice (some ⟨b0,off,none⟩) n c))(hc0:W0.cell? ⟨b0,off+i * 2,none⟩=some (.string key))(hc1:W0.cell? ⟨b0,off+i * 2+1,none⟩=some (.slice xa xn xc))(hi:i<n)(HP:∀ W,Below W0.heap.size W0 W→Calls Tryz.prog 86 #[.agg #[.string kind,.string name,(.slice ba bn bc)],.agg #[.string key,(.slice xa xn xc)]] W fun e w'=>∃ q m cc,e=.returned (.agg #[.string kind,.string name,.slice q m cc])∧P W (.slice q m cc) w'∧Below W.heap.size W w')
  (hsX:a.eval (.tmp 5)=.pointer (some ⟨X,0,none⟩)) (hsO:a.eval (.tmp 2)=.pointer (some ⟨O,0,none⟩)) (hsI:a.eval (.tmp 7)=.int .i64 (i:Int)) (hsz:a.tmps.size=52)
  (hQ:∀ v a' q m cc W1 W2,a'=Aq a [44,45,46,47,48,49,50] v→Below W0.heap.size W0 W1→P W1 (.slice q m cc) W2→Below W1.heap.size W1 W2→Q .normal a' (((W2.setCell ⟨X,0,none⟩ (.string kind)).setCell ⟨X,1,none⟩ (.string name)).setCell ⟨X,2,none⟩ (.slice q m cc))):(Code.region 10 Ahn.toArray true).wp Tryz.prog Q a W0:=by
 have hnd:([44,45,46,47,48,49,50]:List Nat).Nodup:=by decide
 have i3:(0:Int)≤(i:Int):=by omega
 have i4:(i:Int)<(n:Int):=by omega
 refine Co [44,45,46,47,48,49,50] (OvF X O i b0 off n c kind name key (.slice ba bn bc) (.slice xa xn xc) (fun v W=>∃ W1,Below W0.heap.size W0 W1∧P W1 v W∧Below W1.heap.size W1 W)) (fun _ W=>W.heap[X]?=some (.cells #[.string kind,.string name,(.slice ba bn bc)] 46 (0,0))∧W.cell? ⟨O,2,none⟩=some (.slice (some ⟨b0,off,none⟩) n c)∧W.cell? ⟨b0,off+i * 2,none⟩=some (.string key)∧W.cell? ⟨b0,off+i * 2+1,none⟩=some (.slice xa xn xc)∧Below W0.heap.size W0 W) 7 8 [0,1,2,3,4,5,6,7] (by kernel_rfl) rfl (by decide) (by kernel_rfl) ?h1 ⟨hX0,hO0,hc0,hc1,(Below.refl _ _).drew⟩ ?hall;case h1 =>
  intro i x W hi;unfold OvF;split <;> first | omega | trivial
 refine Am.consQ (o:=Ov) [] (by kernel_rfl) (by decide) (by kernel_rfl) rfl ?o0 (Am.consQ (o:=Ow) [] (by kernel_rfl) (by decide) (by kernel_rfl) rfl ?o1 (Am.consQ (o:=Ox) [1] (by kernel_rfl) (by decide) (by kernel_rfl) rfl ?o2 (Am.consQ (o:=Oy) [] (by kernel_rfl) (by decide) (by kernel_rfl) rfl ?o3 (Am.consQ (o:=Oz) [2,3] (by kernel_rfl) (by decide) (by kernel_rfl) rfl ?o4 (Am.consQ (o:=O0) [4] (by kernel_rfl) (by decide) (by kernel_rfl) rfl ?o5 (Am.consQ (o:=O1) [0,5] (by kernel_rfl) (by decide) (by kernel_rfl) rfl ?o6 (Am.lastQ (o:=O3) [6,6,0,1,2,3,4,5,6] (by kernel_rfl) (by kernel_rfl) rfl ?o7)))))));case o0 =>
  rintro Q' L _ W h0L hpre ⟨v,rfl,hv,hX,hO,c0,c1,hb⟩ K hK;have g0:=Ab hX 0;have g1:=Ab hX 1;have g2:=Ab hX 2;simp only[List.getElem?_toArray,List.getElem?_cons_zero,List.getElem?_cons_succ]at g0 g1 g2;have r5:=(Bj (v:=v) (show 5 ∉ ([44,45,46,47,48,49,50]:List Nat) by decide)).trans hsX;have he : execOp (Aq a [44, 45, 46, 47, 48, 49, 50] v).eval Ov = execOp (Act.eval ⟨#[undef], []⟩) ⟨some 0, .load 46 (.const (.pointer (some ⟨X, 0, none⟩))), 0, "", #[], none⟩ := by simp only[execOp, Af, Ov, r5]
  refine Df.mk ?_;unfold Oper.wp;rw[he];clear he;go_simp;exact hK.out _ _ (Bm.nextL (W:=W) hv 0 (.agg #[.string kind,.string name,(.slice ba bn bc)]) (Az 0 hnd rfl) (fun _ _ _ h=>h) rfl ⟨hX,hO,c0,c1,hb⟩)
 case o1 =>
  rintro Q' L _ W h0L hpre ⟨v,rfl,hv,hX,hO,c0,c1,hb⟩ K hK;have r2:=(Bj (v:=v) (show 2 ∉ ([44,45,46,47,48,49,50]:List Nat) by decide)).trans hsO;have he : execOp (Aq a [44, 45, 46, 47, 48, 49, 50] v).eval Ow = execOp (Act.eval ⟨#[undef], []⟩) ⟨some 0, .fieldAddr 46 (.const (.pointer (some ⟨O, 0, none⟩))) 2, 0, "", #[], none⟩ := by simp only[execOp, Af, Ow, r2]
  refine Df.mk ?_;unfold Oper.wp;rw[he];clear he;go_simp;exact hK.out _ _ (Bm.nextL (W:=W) hv 1 (.pointer (some ⟨O,2,none⟩)) (Az 1 hnd rfl) (fun _ _ _ h=>h) rfl ⟨hX,hO,c0,c1,hb⟩)
 case o2 =>
  rintro Q' L _ W h0L hpre ⟨v,rfl,hv,hX,hO,c0,c1,hb⟩ K hK;have r45:(Aq a [44,45,46,47,48,49,50] v).eval (.tmp 45)=_:=(Au 1 hnd rfl (by omega)).trans (hv 1 (hpre 1 (by simp)));have he : execOp (Aq a [44, 45, 46, 47, 48, 49, 50] v).eval Ox = execOp (Act.eval ⟨#[undef], []⟩) ⟨some 0, .load 44 (.const (.pointer (some ⟨O, 2, none⟩))), 0, "", #[], none⟩ := by simp only[execOp, Af, Ox, r45]
  refine Df.mk ?_;unfold Oper.wp;rw[he];clear he;go_simp;exact hK.out _ _ (Bm.nextL (W:=W) hv 2 (.slice (some ⟨b0,off,none⟩) n c) (Az 2 hnd rfl) (fun _ _ _ h=>h) rfl ⟨hX,hO,c0,c1,hb⟩)
 case o3 =>
  rintro Q' L _ W h0L hpre ⟨v,rfl,hv,hX,hO,c0,c1,hb⟩ K hK;have r7:=(Bj (v:=v) (show 7 ∉ ([44,45,46,47,48,49,50]:List Nat) by decide)).trans hsI;have he : execOp (Aq a [44, 45, 46, 47, 48, 49, 50] v).eval Oy = execOp (Act.eval ⟨#[undef], []⟩) ⟨some 0, .move (.const (.int .i64 (i : Int))), 0, "", #[], none⟩ := by simp only[execOp, Af, Oy, r7]
  refine Df.mk ?_;unfold Oper.wp;rw[he];clear he;go_simp;exact hK.out _ _ (Bm.nextL (W:=W) hv 3 (.int .i64 (i:Int)) (Az 3 hnd rfl) (fun _ _ _ h=>h) rfl ⟨hX,hO,c0,c1,hb⟩)
 case o4 =>
  rintro Q' L _ W h0L hpre ⟨v,rfl,hv,hX,hO,c0,c1,hb⟩ K hK;have r46:(Aq a [44,45,46,47,48,49,50] v).eval (.tmp 46)=_:=(Au 2 hnd rfl (by omega)).trans (hv 2 (hpre 2 (by simp)));have r47:(Aq a [44,45,46,47,48,49,50] v).eval (.tmp 47)=_:=(Au 3 hnd rfl (by omega)).trans (hv 3 (hpre 3 (by simp)));have he : execOp (Aq a [44, 45, 46, 47, 48, 49, 50] v).eval Oz = execOp (Act.eval ⟨#[undef], []⟩) ⟨some 0, .indexAddr 44 (.const (.slice (some ⟨b0, off, none⟩) n c)) (.const (.int .i64 (i : Int))), 0, "", #[], none⟩ := by simp only[execOp, Af, Oz, r46, r47]
  refine Df.mk ?_;unfold Oper.wp;rw[he];clear he;go_simp;exact hK.out _ _ (Bm.nextL (W:=W) hv 4 (.pointer (some ⟨b0,off+i * 2,none⟩)) (Az 4 hnd rfl) (fun _ _ _ h=>h) rfl ⟨hX,hO,c0,c1,hb⟩)
 case o5 =>
  rintro Q' L _ W h0L hpre ⟨v,rfl,hv,hX,hO,c0,c1,hb⟩ K hK;have r48:(Aq a [44,45,46,47,48,49,50] v).eval (.tmp 48)=_:=(Au 4 hnd rfl (by omega)).trans (hv 4 (hpre 4 (by simp)));have he : execOp (Aq a [44, 45, 46, 47, 48, 49, 50] v).eval O0 = execOp (Act.eval ⟨#[undef], []⟩) ⟨some 0, .load 115 (.const (.pointer (some ⟨b0, off + i * 2, none⟩))), 0, "", #[], none⟩ := by simp only[execOp, Af, O0, r48]
  refine Df.mk ?_;unfold Oper.wp;rw[he];clear he;go_simp;exact hK.out _ _ (Bm.nextL (W:=W) hv 5 (.agg #[.string key,(.slice xa xn xc)]) (Az 5 hnd rfl) (fun _ _ _ h=>h) rfl ⟨hX,hO,c0,c1,hb⟩)
 case o6 =>
  rintro Q' L _ W h0L hpre ⟨v,rfl,hv,hX,hO,c0,c1,hb⟩ K hK;have r44:(Aq a [44,45,46,47,48,49,50] v).eval (.tmp 44)=_:=(Au 0 hnd rfl (by omega)).trans (hv 0 (hpre 0 (by simp)));have r49:(Aq a [44,45,46,47,48,49,50] v).eval (.tmp 49)=_:=(Au 5 hnd rfl (by omega)).trans (hv 5 (hpre 5 (by simp)));have HPW:=HP W hb;have he : execOp (Aq a [44, 45, 46, 47, 48, 49, 50] v).eval O1 = execOp (Act.eval ⟨#[undef], []⟩) ⟨some 0, .call { callee := .value (.func 86), args := #[.const (.agg #[.string kind, .string name, (.slice ba bn bc)]), .const (.agg #[.string key, (.slice xa xn xc)])], argTypes := #[46, 115] }, 0, "", #[], none⟩ := by simp only[execOp, Af, O1, resolve, Eo, List.map_toArray, List.map_cons, List.map_nil, r44, r49]
  refine Df.mk ?_;unfold Oper.wp;rw[he];clear he;go_simp;refine HPW.mono ?_;rintro e W' ⟨q,m,cc,rfl,hP,b'⟩;refine hK.out _ _ (Bm.nextL (W:=W) hv 6 (.agg #[.string kind,.string name,.slice q m cc]) (Az 6 hnd rfl) (fun j y hj h=>?_) ⟨q,m,cc,rfl,W,hb,hP,b'⟩ ⟨(b'.block X (Array.getElem?_eq_some_iff.1 hX).1).trans hX,(b'.cell (World.block_lt_of_cell? _ _ hO)).trans hO,(b'.cell (World.block_lt_of_cell? _ _ c0)).trans c0,(b'.cell (World.block_lt_of_cell? _ _ c1)).trans c1,hb.trans (b'.mono hb.size)⟩);have h6:j≠6:=fun e=>by rw[e,h0L]at hj;cases hj
  unfold OvF at *;split <;> simp only at h
  all_goals first | exact h | exact absurd rfl h6 | trivial
 case o7 =>
  rintro Q' L _ W h0L hpre ⟨v,rfl,hv,hX,hO,c0,c1,hb⟩ K hK;obtain⟨q,m,cc,e6,W1,hb1,hP,hb2⟩:=hv 6 (hpre 6 (by simp));have r50:(Aq a [44,45,46,47,48,49,50] v).eval (.tmp 50)=_:=(Au 6 hnd rfl (by omega)).trans e6;have r5:=(Bj (v:=v) (show 5 ∉ ([44,45,46,47,48,49,50]:List Nat) by decide)).trans hsX;have g0:=Ab hX 0;have g1:=Ab hX 1;have g2:=Ab hX 2;simp only[List.getElem?_toArray,List.getElem?_cons_zero,List.getElem?_cons_succ]at g0 g1 g2;have f0:=Ag hX 0;have f1:=Ag hX 1;have f2:=Ag hX 2;have HQ:=Aa (hQ v _ q m cc W1 W rfl hb1 hP hb2);have he : execOp (Aq a [44, 45, 46, 47, 48, 49, 50] v).eval O3 = execOp (Act.eval ⟨#[undef], []⟩) ⟨some 0, .store 46 (.const (.pointer (some ⟨X, 0, none⟩))) (.const (.agg #[.string kind, .string name, .slice q m cc])), 0, "", #[], none⟩ := by simp only[execOp, Af, O3, r5, r50]
  refine Df.mk ?_;unfold Oper.wp;rw[he];clear he;go_simp;exact hK.out _ _ (NoPanic.normal HQ.out)
def OvG(U i b0 off n c:Nat)(kind name key:ByteArray)(ov:Value)(KK:Bool)(j:Nat)(x:Value):Prop:=match j with
 | 0=>x=.agg #[.string kind,.string name,ov]
 | 1=>x=.pointer (some ⟨U,2,none⟩)
 | 2=>x=.slice (some ⟨b0,off,none⟩) n c
 | 3=>x=.int .i64 (i:Int)
 | 4=>x=.pointer (some ⟨b0,off+i * 2,none⟩)
 | 5=>x=.pointer (some ⟨b0,off+i * 2,none⟩)
 | 6=>x=.string key
 | 7=>∃ a m cc,x=.slice a m cc∧((m:Int) == 0)=KK
 | 8=>∃ m:Nat,x=.int .i64 (m:Int)∧((m:Int) == 0)=KK
 | 9=>x=.bool KK
 | _=>True
theorem Xb{U on oc:Nat}{key:ByteArray}{oa:Option Addr}{KK:Bool}(hO0:W0.heap[O]?=some (.cells #[.string kind,.string name,(.slice oa on oc)] 46 (0,0)))(hU0:W0.cell? ⟨U,2,none⟩=some (.slice (some ⟨b0,off,none⟩) n c))(hc0:W0.cell? ⟨b0,off+i * 2,none⟩=some (.string key))(hi:i<n)(HP:∀ W,Below W0.heap.size W0 W→Calls Tryz.prog 89 #[.agg #[.string kind,.string name,(.slice oa on oc)],.string key] W fun e w'=>Qh KK W e w')
  (hsO:a.eval (.tmp 3)=.pointer (some ⟨O,0,none⟩)) (hsU:a.eval (.tmp 2)=.pointer (some ⟨U,0,none⟩)) (hsI:a.eval (.tmp 7)=.int .i64 (i:Int)) (hsz:a.tmps.size=52)
  (hQ:∀ v a' W',a'=Aq a [34,35,36,37,38,39,40,41,42,43] v→v 9=.bool KK→Below W0.heap.size W0 W'→Q .normal a' W'):(Code.region 9 Aid.toArray true).wp Tryz.prog Q a W0:=by
 have hnd:([34,35,36,37,38,39,40,41,42,43]:List Nat).Nodup:=by decide
 have i3:(0:Int)≤(i:Int):=by omega
 have i4:(i:Int)<(n:Int):=by omega
 refine J1 [34,35,36,37,38,39,40,41,42,43] (fun j x _=>OvG U i b0 off n c kind name key (.slice oa on oc) KK j x) (fun _ W=>W.heap[O]?=some (.cells #[.string kind,.string name,(.slice oa on oc)] 46 (0,0))∧W.cell? ⟨U,2,none⟩=some (.slice (some ⟨b0,off,none⟩) n c)∧W.cell? ⟨b0,off+i * 2,none⟩=some (.string key)∧Below W0.heap.size W0 W) 10 [0,1,2,3,4,5,6,7,8,9] (by kernel_rfl) rfl (by decide) (by kernel_rfl) ?h1 ⟨hO0,hU0,hc0,(Below.refl _ _).drew⟩ ?hall ?hend;case h1 =>
  intro i x W hi;unfold OvG;split <;> first | omega | trivial
 case hend =>
  intro v W' L hL hv hg;exact NoPanic.normal (hQ v _ W' rfl (hv 9) hg.2.2.2)
 refine Am.consQ (o:=Tw) [] (by kernel_rfl) (by decide) (by kernel_rfl) rfl ?o0 (Am.consQ (o:=Tx) [] (by kernel_rfl) (by decide) (by kernel_rfl) rfl ?o1 (Am.consQ (o:=Ty) [1] (by kernel_rfl) (by decide) (by kernel_rfl) rfl ?o2 (Am.consQ (o:=Tz) [] (by kernel_rfl) (by decide) (by kernel_rfl) rfl ?o3 (Am.consQ (o:=T0) [2,3] (by kernel_rfl) (by decide) (by kernel_rfl) rfl ?o4 (Am.consQ (o:=T1) [4] (by kernel_rfl) (by decide) (by kernel_rfl) rfl ?o5 (Am.consQ (o:=T3) [5] (by kernel_rfl) (by decide) (by kernel_rfl) rfl ?o6 (Am.consQ (o:=T4) [0,6] (by kernel_rfl) (by decide) (by kernel_rfl) rfl ?o7 (Am.consQ (o:=Zk) [7] (by kernel_rfl) (by decide) (by kernel_rfl) rfl ?o8 (Am.consQ (o:=Zl) [8] (by kernel_rfl) (by decide) (by kernel_rfl) rfl ?o9 Am.nil)))))))));case o0 =>
  rintro Q' L _ W h0L hpre ⟨v,rfl,hv,hO,hU,c0,hb⟩ K hK;have g0:=Ab hO 0;have g1:=Ab hO 1;have g2:=Ab hO 2;simp only[List.getElem?_toArray,List.getElem?_cons_zero,List.getElem?_cons_succ]at g0 g1 g2;have r3:=(Bj (v:=v) (show 3 ∉ ([34,35,36,37,38,39,40,41,42,43]:List Nat) by decide)).trans hsO;have he : execOp (Aq a [34, 35, 36, 37, 38, 39, 40, 41, 42, 43] v).eval Tw = execOp (Act.eval ⟨#[undef], []⟩) ⟨some 0, .load 46 (.const (.pointer (some ⟨O, 0, none⟩))), 0, "", #[], none⟩ := by simp only[execOp, Af, Tw, r3]
  refine Df.mk ?_;unfold Oper.wp;rw[he];clear he;go_simp;exact hK.out _ _ (Bm.next (W:=W) hv 0 (.agg #[.string kind,.string name,(.slice oa on oc)]) (Az 0 hnd rfl) (fun _ _ h=>h) rfl ⟨hO,hU,c0,hb⟩)
 case o1 =>
  rintro Q' L _ W h0L hpre ⟨v,rfl,hv,hO,hU,c0,hb⟩ K hK;have r2:=(Bj (v:=v) (show 2 ∉ ([34,35,36,37,38,39,40,41,42,43]:List Nat) by decide)).trans hsU;have he : execOp (Aq a [34, 35, 36, 37, 38, 39, 40, 41, 42, 43] v).eval Tx = execOp (Act.eval ⟨#[undef], []⟩) ⟨some 0, .fieldAddr 46 (.const (.pointer (some ⟨U, 0, none⟩))) 2, 0, "", #[], none⟩ := by simp only[execOp, Af, Tx, r2]
  refine Df.mk ?_;unfold Oper.wp;rw[he];clear he;go_simp;exact hK.out _ _ (Bm.next (W:=W) hv 1 (.pointer (some ⟨U,2,none⟩)) (Az 1 hnd rfl) (fun _ _ h=>h) rfl ⟨hO,hU,c0,hb⟩)
 case o2 =>
  rintro Q' L _ W h0L hpre ⟨v,rfl,hv,hO,hU,c0,hb⟩ K hK;have r35:(Aq a [34,35,36,37,38,39,40,41,42,43] v).eval (.tmp 35)=_:=(Au 1 hnd rfl (by omega)).trans (hv 1 (hpre 1 (by simp)));have he : execOp (Aq a [34, 35, 36, 37, 38, 39, 40, 41, 42, 43] v).eval Ty = execOp (Act.eval ⟨#[undef], []⟩) ⟨some 0, .load 44 (.const (.pointer (some ⟨U, 2, none⟩))), 0, "", #[], none⟩ := by simp only[execOp, Af, Ty, r35]
  refine Df.mk ?_;unfold Oper.wp;rw[he];clear he;go_simp;exact hK.out _ _ (Bm.next (W:=W) hv 2 (.slice (some ⟨b0,off,none⟩) n c) (Az 2 hnd rfl) (fun _ _ h=>h) rfl ⟨hO,hU,c0,hb⟩)
 case o3 =>
  rintro Q' L _ W h0L hpre ⟨v,rfl,hv,hO,hU,c0,hb⟩ K hK;have r7:=(Bj (v:=v) (show 7 ∉ ([34,35,36,37,38,39,40,41,42,43]:List Nat) by decide)).trans hsI;have he : execOp (Aq a [34, 35, 36, 37, 38, 39, 40, 41, 42, 43] v).eval Tz = execOp (Act.eval ⟨#[undef], []⟩) ⟨some 0, .move (.const (.int .i64 (i : Int))), 0, "", #[], none⟩ := by simp only[execOp, Af, Tz, r7]
  refine Df.mk ?_;unfold Oper.wp;rw[he];clear he;go_simp;exact hK.out _ _ (Bm.next (W:=W) hv 3 (.int .i64 (i:Int)) (Az 3 hnd rfl) (fun _ _ h=>h) rfl ⟨hO,hU,c0,hb⟩)
 case o4 =>
  rintro Q' L _ W h0L hpre ⟨v,rfl,hv,hO,hU,c0,hb⟩ K hK;have r36:(Aq a [34,35,36,37,38,39,40,41,42,43] v).eval (.tmp 36)=_:=(Au 2 hnd rfl (by omega)).trans (hv 2 (hpre 2 (by simp)));have r37:(Aq a [34,35,36,37,38,39,40,41,42,43] v).eval (.tmp 37)=_:=(Au 3 hnd rfl (by omega)).trans (hv 3 (hpre 3 (by simp)));have he : execOp (Aq a [34, 35, 36, 37, 38, 39, 40, 41, 42, 43] v).eval T0 = execOp (Act.eval ⟨#[undef], []⟩) ⟨some 0, .indexAddr 44 (.const (.slice (some ⟨b0, off, none⟩) n c)) (.const (.int .i64 (i : Int))), 0, "", #[], none⟩ := by simp only[execOp, Af, T0, r36, r37]
  refine Df.mk ?_;unfold Oper.wp;rw[he];clear he;go_simp;exact hK.out _ _ (Bm.next (W:=W) hv 4 (.pointer (some ⟨b0,off+i * 2,none⟩)) (Az 4 hnd rfl) (fun _ _ h=>h) rfl ⟨hO,hU,c0,hb⟩)
 case o5 =>
  rintro Q' L _ W h0L hpre ⟨v,rfl,hv,hO,hU,c0,hb⟩ K hK;have r38:(Aq a [34,35,36,37,38,39,40,41,42,43] v).eval (.tmp 38)=_:=(Au 4 hnd rfl (by omega)).trans (hv 4 (hpre 4 (by simp)));have he : execOp (Aq a [34, 35, 36, 37, 38, 39, 40, 41, 42, 43] v).eval T1 = execOp (Act.eval ⟨#[undef], []⟩) ⟨some 0, .fieldAddr 115 (.const (.pointer (some ⟨b0, off + i * 2, none⟩))) 0, 0, "", #[], none⟩ := by simp only[execOp, Af, T1, r38]
  refine Df.mk ?_;unfold Oper.wp;rw[he];clear he;go_simp;exact hK.out _ _ (Bm.next (W:=W) hv 5 (.pointer (some ⟨b0,off+i * 2,none⟩)) (Az 5 hnd rfl) (fun _ _ h=>h) rfl ⟨hO,hU,c0,hb⟩)
 case o6 =>
  rintro Q' L _ W h0L hpre ⟨v,rfl,hv,hO,hU,c0,hb⟩ K hK;have r39:(Aq a [34,35,36,37,38,39,40,41,42,43] v).eval (.tmp 39)=_:=(Au 5 hnd rfl (by omega)).trans (hv 5 (hpre 5 (by simp)));have he : execOp (Aq a [34, 35, 36, 37, 38, 39, 40, 41, 42, 43] v).eval T3 = execOp (Act.eval ⟨#[undef], []⟩) ⟨some 0, .load 9 (.const (.pointer (some ⟨b0, off + i * 2, none⟩))), 0, "", #[], none⟩ := by simp only[execOp, Af, T3, r39]
  refine Df.mk ?_;unfold Oper.wp;rw[he];clear he;go_simp;exact hK.out _ _ (Bm.next (W:=W) hv 6 (.string key) (Az 6 hnd rfl) (fun _ _ h=>h) rfl ⟨hO,hU,c0,hb⟩)
 case o7 =>
  rintro Q' L _ W h0L hpre ⟨v,rfl,hv,hO,hU,c0,hb⟩ K hK;have r34:(Aq a [34,35,36,37,38,39,40,41,42,43] v).eval (.tmp 34)=_:=(Au 0 hnd rfl (by omega)).trans (hv 0 (hpre 0 (by simp)));have r40:(Aq a [34,35,36,37,38,39,40,41,42,43] v).eval (.tmp 40)=_:=(Au 6 hnd rfl (by omega)).trans (hv 6 (hpre 6 (by simp)));have HPW:=HP W hb;have he : execOp (Aq a [34, 35, 36, 37, 38, 39, 40, 41, 42, 43] v).eval T4 = execOp (Act.eval ⟨#[undef], []⟩) ⟨some 0, .call { callee := .value (.func 89), args := #[.const (.agg #[.string kind, .string name, (.slice oa on oc)]), .const (.string key)], argTypes := #[46, 9] }, 0, "", #[], none⟩ := by simp only[execOp, Af, T4, resolve, Eo, List.map_toArray, List.map_cons, List.map_nil, r34, r40]
  refine Df.mk ?_;unfold Oper.wp;rw[he];clear he;go_simp;refine HPW.mono ?_;rintro e W' ⟨q,m,cc,rfl,hK0,b'⟩;exact hK.out _ _ (Bm.next (W:=W) hv 7 (.slice q m cc) (Az 7 hnd rfl) (fun _ _ h=>h) ⟨q,m,cc,rfl,hK0⟩ ⟨(b'.block O (Array.getElem?_eq_some_iff.1 hO).1).trans hO,(b'.cell (World.block_lt_of_cell? _ _ hU)).trans hU,(b'.cell (World.block_lt_of_cell? _ _ c0)).trans c0,hb.trans (b'.mono hb.size)⟩)
 case o8 =>
  rintro Q' L _ W h0L hpre ⟨v,rfl,hv,hO,hU,c0,hb⟩ K hK;obtain⟨q,m,cc,e7,hm⟩:=hv 7 (hpre 7 (by simp));have r41:(Aq a [34,35,36,37,38,39,40,41,42,43] v).eval (.tmp 41)=_:=(Au 7 hnd rfl (by omega)).trans e7;refine Df.mk ?_;unfold Oper.wp;simp only[execOp,Zk,resolve,List.map_toArray,List.map_cons,List.map_nil,r41];go_simp;exact hK.out _ _ (Bm.next (W:=W) hv 8 (.int .i64 (m:Int)) (Az 8 hnd rfl) (fun _ _ h=>h) ⟨m,rfl,hm⟩ ⟨hO,hU,c0,hb⟩)
 case o9 =>
  rintro Q' L _ W h0L hpre ⟨v,rfl,hv,hO,hU,c0,hb⟩ K hK;obtain⟨m,e8,hm⟩:=hv 8 (hpre 8 (by simp));have r42:(Aq a [34,35,36,37,38,39,40,41,42,43] v).eval (.tmp 42)=_:=(Au 8 hnd rfl (by omega)).trans e8;refine Df.mk ?_;unfold Oper.wp;simp only[execOp,Zl,Af,r42];go_simp;exact hK.out _ _ (Bm.next (W:=W) hv 9 (.bool KK) (Az 9 hnd rfl) (fun _ _ h=>h) rfl ⟨hO,hU,c0,hb⟩)
def Ck(key:ByteArray)(x:LAt):Bool:=!(x.key.toList == key.toList)
def I3(b:BAt)(key:ByteArray)(w:World)(e:Ending)(w':World):Prop:=∃ a n c,e=.returned (.agg #[.string b.kind,.string b.name,.slice a n c])∧w'.ownsRow w.heap.size 115 2 (.slice a n c) (b.ls.filter (Ck key)).length ((b.ls.filter (Ck key)).flatMap LAt.cells)∧Below w.heap.size w w'
theorem I9{b:BAt}(key:ByteArray)(hb:Cb w b)(hs:Ae b.ls):Calls Tryz.prog 107 #[.agg #[.string b.kind,.string b.name,b.v],.string key] w fun e w'=>I3 b key w e w':=by
 obtain⟨bk,bn,bv,ls⟩:=b;unfold I3;unfold Cb at hb;simp only at *;obtain⟨ao,cap,rfl⟩:=hb.1.form;have hl:=hs.1;generalize hn:ls.length=len at *;have en:=Aa hn;clear hn;obtain⟨i0,hi,hz0,hz1,hz2⟩:=info_parts Ez;have G:Below w.heap.size w ((w.alloc (.cells #[.string bk,.string bn,.slice ao len cap] 46)).alloc (.cells #[.string ⟨#[]⟩,.string ⟨#[]⟩,.slice none 0 0] 46)):=((Below.refl w.heap.size w).alloc (Nat.le_refl _) _).alloc (by simp) _;have hwz2:((w.alloc (.cells #[.string bk,.string bn,.slice ao len cap] 46)).alloc (.cells #[.string ⟨#[]⟩,.string ⟨#[]⟩,.slice none 0 0] 46)).heap.size=w.heap.size+2:=by simp
 have hA:((w.alloc (.cells #[.string bk,.string bn,.slice ao len cap] 46)).alloc (.cells #[.string ⟨#[]⟩,.string ⟨#[]⟩,.slice none 0 0] 46)).heap[w.heap.size]?=some (.cells #[.string bk,.string bn,.slice ao len cap] 46 (0,0)):=by
  have b1:=(Below.refl (w.alloc (.cells #[.string bk,.string bn,.slice ao len cap] 46)).heap.size (w.alloc (.cells #[.string bk,.string bn,.slice ao len cap] 46))).alloc (Nat.le_refl _) (.cells #[.string ⟨#[]⟩,.string ⟨#[]⟩,.slice none 0 0] 46);rw[b1.block w.heap.size (by simp)];exact Al w _
 have hR:((w.alloc (.cells #[.string bk,.string bn,.slice ao len cap] 46)).alloc (.cells #[.string ⟨#[]⟩,.string ⟨#[]⟩,.slice none 0 0] 46)).heap[w.heap.size+1]?=some (.cells #[.string ⟨#[]⟩,.string ⟨#[]⟩,.slice none 0 0] 46 (0,0)):=by
  have:=Al (w.alloc (.cells #[.string bk,.string bn,.slice ao len cap] 46)) (.cells #[.string ⟨#[]⟩,.string ⟨#[]⟩,.slice none 0 0] 46);rw[World.size_alloc]at this;exact this
 generalize hw2:((w.alloc (.cells #[.string bk,.string bn,.slice ao len cap] 46)).alloc (.cells #[.string ⟨#[]⟩,.string ⟨#[]⟩,.slice none 0 0] 46))=w2 at *;have k2:=Ab hA 2;simp only[List.getElem?_toArray,List.getElem?_cons_zero,List.getElem?_cons_succ]at k2;have hb0:=hb.below G;have hown0:=World.ownsRow_lit (base:=w.heap.size+2) (e:=115) (size:=2) w2 #[] 0 (by omega) (by decide) rfl;rw[hwz2]at hown0;have b00:=(Below.refl (w.heap.size+2) w2).alloc (by omega) (.cells #[] 115);have ew2:=Aa hw2;clear hb hw2;go_enter Tryz.func107,Tryz.ntmps107;go_wp2;rw[ew2.out];go_loopw [5,6] (fun u i wr=>∃(j:Nat) (done:List LAt),j≤len∧i=.int .i64 (j:Int)∧done=(ls.take j).filter (Ck key)∧wr.ownsRow (w.heap.size+2) 115 2 u done.length (done.flatMap LAt.cells)∧Below (w.heap.size+2) w2 wr) (fun _ i _=>len - (intOf i).toNat)
 case atStart=>exact⟨0,[],by omega,rfl,by simp,by simpa using hown0,b00⟩
 case round =>
  obtain⟨j,done,hj,rfl,hdn,hm,bw⟩:=hrel;obtain⟨qa,qc,rfl,_⟩:=Ai hm;have hdl:done.length≤j:=by rw[hdn];exact Nat.le_trans (List.length_filter_le _ _) (by simp;omega)
  have k3:=(bw.cell (p:=⟨w.heap.size,2,none⟩) (by simp)).trans k2;have kB:=(bw.block w.heap.size (by omega)).trans hA;have kR:=(bw.block (w.heap.size+1) (by omega)).trans hR;have hszw:=bw.size;rw[hwz2]at hszw;by_cases hlt:j<len
  ·obtain⟨D,x,T,e0,hD⟩:=Br ls j (by have:=en.out;omega);have h5:=hb0.below (by rw[hwz2];exact bw);have hxm:x∈ls:=by rw[e0];simp
   have h6:=h5;rw[e0]at h6;obtain⟨g,off,rfl,c1,c2⟩:=h6.1.line;obtain⟨ax,cx,e1⟩:=An.form (h5.2 x hxm);have hst:=Aa (show (ls.take (j+1)).filter (Ck key)=done++[x].filter (Ck key) from by rw[hdn,e0,← hD,Ch,Cq,List.filter_append]);rw[e1]at c2;rw[hD]at c1 c2;have hB0:(0:Int)≤(j:Int):=by omega
   have hB1:(j:Int)<(len:Int):=by omega
   have hcells:=Aa (show (LAt.cells x)=[.string x.key,.slice ax x.ws.length cx] from by unfold LAt.cells;rw[e1]);have hm':=Aa hm;have hbase:=Aa (show ∀ k,(Value.slice qa done.length qc).ownBlock=some k→w.heap.size+2≤k from fun k hk=>(hm.lt k hk).1);cases hp:(x.key.toList == key.toList)
   rotate_left 1
   ·have hst':=Aa (show (ls.take (j+1)).filter (Ck key)=done from by rw[hst.out];simp[Ck,hp]);clear h5 h6 hdn hm e0 e1 hD hxm hst hcells hb0 hs;generalize x.key=xk at *;generalize x.ws.length=nx at *;go_wp2;go_roundw;case rel=>exact⟨j+1,done,by omega,by go_num,hst'.out.symm,hm'.out,bw⟩
    case measure=>simp[intOf];omega
   ·have hst':=Aa (show (ls.take (j+1)).filter (Ck key)=done++[x] from by rw[hst.out];simp[Ck,hp]);have hone:=Fr (ls:=[x]) (fun y hy=>by rw[List.mem_singleton.1 hy];exact⟨_,_,_,e1⟩);rw[List.flatMap_singleton,hcells.out]at hone;clear h5 h6 hdn hm e0 e1 hD hxm hst hb0 hs;have hm3:=hm'.out.alloc (.cells #[.string x.key,.slice ax x.ws.length cx] 115);have b4:=bw.alloc hszw (.cells #[.string x.key,.slice ax x.ws.length cx] 115);have hrow:=Cj wr #[.string x.key,.slice ax x.ws.length cx] 115 2 rfl;go_wp2_with (at_builtin;refine Be (by rfl) _ _ 44 (by rfl) (w.heap.size+2) 115 i0 _ 2 40 Tryz.underlying44 hi hz0 hz1 hz2 rfl (by decide) _ done.length _ (by rfl) hm3 _ 1 _ (by rfl) hrow hone ?c3 ?c4 (Nat.le_trans hszw (by simp)) ?_)
    case c3=>unfold maxLen;omega
    case c4=>omega
    intro ao' cap' w5 hown5 hg5 _;have hB5:=b4.grown hg5 (by simp;omega) hbase.out;have HO:=Aa (show w5.ownsRow (w.heap.size+2) 115 2 (.slice ao' (done.length+1) cap') (done++[x]).length ((done++[x]).flatMap LAt.cells) from by
     rw[List.flatMap_append,List.flatMap_singleton,hcells.out,List.length_append];exact hown5)
    clear hm3 hrow hone hown5 hg5 hbase hm';go_wp2;go_roundw;case rel=>exact⟨j+1,done++[x],by omega,by go_num,hst'.out.symm,HO.out,hB5⟩
    case measure=>simp[intOf];omega
  ·obtain rfl:j=len:=by omega
   have hls:ls.take j=ls:=by rw[← en.out,List.take_length]
   rw[hls]at hdn;have gC:=C8 wr w.heap.size 2 (.slice qa done.length qc);have zB:(wr.setCell ⟨w.heap.size,2,none⟩ (.slice qa done.length qc)).heap[w.heap.size]?=some (.cells #[.string bk,.string bn,.slice qa done.length qc] 46 (0,0)):=by rw[heap_setCell_same wr w.heap.size 2 _ _ _ kB];rfl
   have zR:=(gC.block (w.heap.size+1) (by omega) (by intro e;have:=Option.some.inj e;omega)).trans kR;have f2:=Ag kB 2;have x0:=Ab zB 0;have x1:=Ab zB 1;have x2:=Ab zB 2;simp only[List.getElem?_toArray,List.getElem?_cons_zero,List.getElem?_cons_succ]at x0 x1 x2;have gS:=Bx (wr.setCell ⟨w.heap.size,2,none⟩ (.slice qa done.length qc)) (w.heap.size+1) #[.string bk,.string bn,.slice qa done.length qc];have HO:=Aa (show ((wr.setCell ⟨w.heap.size,2,none⟩ (.slice qa done.length qc)).setRow (w.heap.size+1) #[.string bk,.string bn,.slice qa done.length qc]).ownsRow w.heap.size 115 2 (.slice qa done.length qc) (ls.filter (Ck key)).length ((ls.filter (Ck key)).flatMap LAt.cells) from by
    rw[← hdn];exact Ec (Kx (Kx hm gC (by omega)) gS (by omega)) (by omega))
   have HB:=Aa (Bu (Bu (G.trans (bw.mono (by omega))) (by omega) (Nat.le_refl _) gC) (by have:=gC.size;omega) (by omega) gS);clear hb0 hs hm hdn hls kB kR hA hR G b00 hown0 gC gS;generalize done.length=nd at *;go_wp2_with (with_reducible show wpList _ _ _ (Oper.mk _ (Op.store _ (Operand.tmp 4) _) _ _ _ _::_) _ _;refine wpList_store_row rfl 46 _ _ rfl (w.heap.size+1) #[.string bk,.string bn,.slice qa nd qc] ?_ ?_ 46 _ zR ?_ ?_ ?_ ?_)
   all_goals (first | rfl | kernel_rfl | exact⟨rfl,rfl,rfl⟩ | (obtain⟨i9,e9,_,s9,_⟩:=info_parts Cn;exact⟨i9,e9,s9⟩) | skip)
   have z5:=setRow_heap _ _ _ #[.string bk,.string bn,.slice qa nd qc] _ _ zR;have y0:=Ab z5 0;have y1:=Ab z5 1;have y2:=Ab z5 2;simp only[List.getElem?_toArray,List.getElem?_cons_zero,List.getElem?_cons_succ]at y0 y1 y2;generalize (wr.setCell ⟨w.heap.size,2,none⟩ (.slice qa nd qc)).setRow (w.heap.size+1) #[.string bk,.string bn,.slice qa nd qc]=W at HO HB y0 y1 y2 z5 ⊢;exact bodyPost_ret (v:=.agg #[.string bk,.string bn,.slice qa nd qc]) (by simp[results,Tryz.results107,go_sem,y0,y1,y2]) rfl ⟨qa,nd,qc,rfl,HO.out,HB.out⟩
end Go.Proofs.YtpdahhnjhggocaaGreatDoor
