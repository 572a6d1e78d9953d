import Derived.Test.YtpdahhnjhggocaaGreatDoorMz20
import Derived.Deep.DeepCutAuto
namespace Go.Proofs.YtpdahhnjhggocaaGreatDoor
open Go.RowKit
set_option maxHeartbeats 16000000
set_option maxRecDepth 100000
variable {P:Program}{id i c:Nat}{Q:Exit → Act → World → Prop}{a:Act}{w:World}{v vl:Value}{ops:Array Oper}{o:Oper}{R:List Plain}{kind:ByteArray}{ls:List LAt}
structure Gr(w:World) where
 u:World
 h:Below w.heap.size w u
instance (w:World):Inhabited (Gr w):=⟨⟨w,Below.refl _ _⟩⟩
theorem Bf{l:List Oper}(hm:P.follows .mixedOrders=true)(hB:Region.lexB .any l.toArray=true)
  (h:wpQuiet P l.toArray (fun w'=>∃ p:Gr w,w'=p.u) (fun a'=>∀ w',(∃ p:Gr w,w'=p.u)→Q .normal a' w') l a):(Code.region id l.toArray true).wp P Q a w :=
 wp_region_quiet (C:=fun w'=>∃ p:Gr w,w'=p.u) hm hB ⟨⟨w.drew,(Below.refl _ _).drew⟩,rfl⟩ (by simpa using h)
theorem Ff{f:FuncId}{args:Array Value}{p:Gr w}(h:Calls P f args p.u fun e w'=>e=.returned v∧Below p.u.heap.size p.u w'):Calls P f args p.u fun e w''=>e=.returned v∧∃ q:Gr w,w''=q.u :=
 h.mono fun _ w' ⟨he,hb⟩=>⟨he,⟨w',p.h.trans (hb.mono p.h.size)⟩,rfl⟩
theorem Bt{C:World→Prop}{Q:Act→Prop}{rest:List Oper}(hw:Region.wanted o (yielded ops a.tmps)=false)(h:wpQuiet P ops C Q rest (a.put o.dst undef)):wpQuiet P ops C Q (o::rest) a:=by
 unfold wpQuiet;rw[if_neg (by rw[hw];decide)];exact h
theorem Ap{a:Addr}(h:w.cell? a=some v)(p:Gr w):p.u.cell? a=some v:=(p.h.cell (World.block_lt_of_cell? w _ h)).trans h
def Ie(R:List Plain)(ls:List PLine)(k:Nat):Prop:=∀ i,i<k→Y0 R ls i
theorem Ie.zero(R:List Plain)(ls:List PLine):Ie R ls 0:=fun _ h=>by omega
theorem Ie.all{ls:List PLine}(h:Ie R ls ls.length):true=linesB R ls:=by
 rw[eq_comm,Cg];exact L7 h
def Iw(R:List Plain)(ls:List PLine)(i:Nat)(a:PLine):Prop:=Ds R a.key a.ws=true∧(i=0∨∃ b,ls[i - 1]?=some b∧lineLt R b a=true)
theorem Zb{ls:List PLine}{a:PLine}(ha:ls[i]?=some a)(h:¬ Iw R ls i a):false=linesB R ls:=by
 rw[eq_comm,← Bool.not_eq_true,Cg];intro hok;obtain⟨b,hb,h1,h2,_⟩:=L8 hok i (List.getElem?_eq_some_iff.1 ha).1;rw[ha]at hb;cases hb
 exact h ⟨h1,h2⟩
theorem Adw{ls:List PLine}{a:PLine}(ha:ls[i]?=some a)(h:¬ ((Fe R a.key=true∨keyN (ls.take (i+1)) a.key≤1)∧keyN (ls.take (i+1)) a.key≤10)):false=linesB R ls:=by
 rw[eq_comm,← Bool.not_eq_true,Cg];intro hok;obtain⟨b,hb,_,_,h3⟩:=L8 hok i (List.getElem?_eq_some_iff.1 ha).1;rw[ha]at hb;cases hb
 exact h h3
theorem Ie.succ{ls:List PLine}{a:PLine}(h:Ie R ls i)(ha:ls[i]?=some a)(h1:Iw R ls i a)(h2:(Fe R a.key=true∨keyN (ls.take (i+1)) a.key≤1)∧keyN (ls.take (i+1)) a.key≤10):Ie R ls (i+1):=by
 intro j hj;by_cases e:j=i
 ·subst e;exact⟨a,ha,h1.1,h1.2,h2.1,h2.2⟩
 ·exact h j (by omega)
theorem Abz{D T:List LAt}{r:LAt}{key:ByteArray}(h:c=keyN (((D++r::T).map LAt.plain).take D.length) key)(B:Bool)(hk:(r.key.toList == key.toList)=B):(if B=true then c+1 else c)=keyN (((D++r::T).map LAt.plain).take (D.length+1)) key:=by
 rw[← List.map_take,Ch]at h;rw[← List.map_take,Cq,List.map_append,Ex,← h,List.map_singleton,Ke];cases B
 ·rw[if_neg (by decide),if_neg]
  ·rfl
  ·intro e;rw[show r.plain.key=r.key from rfl]at e;rw[e]at hk;simp at hk
 ·rw[if_pos rfl,if_pos (show r.plain.key=key from toList_inj (show r.key.toList=key.toList by simpa using hk))]
theorem Aga{key:ByteArray}{L:List Ce}(hp:L.map Ce.plain=rulesOf kind)(hk:Cp (rulesOf kind) key≠none):∃ D r T,L=D++r::T∧placeI (rulesOf kind) key=(D.length:Int)∧r.many=Fe (rulesOf kind) key:=by
 obtain⟨p,hp'⟩:=Option.ne_none_iff_exists'.1 hk;obtain⟨i,hi,hg,hkey⟩:=Ew hp';have hl:i<L.length:=by
  have:=(List.getElem?_eq_some_iff.1 hg).1;rw[← hp,List.length_map]at this;exact this
 obtain⟨D,r,T,rfl,hD⟩:=Br L i hl;refine⟨D,r,T,rfl,by rw[hi,hD],?_⟩;rw[← hp,List.map_append,List.map_cons,← hD]at hg;have:r.plain=p:=by simpa using hg
 unfold Fe;rw[hp',← this];rfl
theorem Rk(kind:ByteArray)(hls:Ah w vl ls)(hsm:Ae ls):Calls Tryz.prog 58 #[.string kind,vl] w fun e w'=>Got (.bool (linesB (rulesOf kind) (ls.map LAt.plain))) w e w':=by
 obtain⟨al,cl,rfl⟩:=hls.1.form;have hn20:=hsm.1;generalize hn:ls.length=n at *;generalize hPL:ls.map LAt.plain=PL;have hP:=Aa hPL;have hN:=Aa hn;have hPN:=Aa (show PL.length=n by rw[← hPL,List.length_map,hn]);clear hPL hn;go_enter Tryz.func58,Tryz.ntmps58;go_wp2;go_loopw [5] (fun i wr=>∃ j:Nat,j≤n∧i=.int .i64 (j:Int)∧Below w.heap.size w wr∧Ie (rulesOf kind) PL j) (fun i _=>n - (intOf i).toNat)
 case atStart=>exact⟨0,by omega,rfl,Below.refl _ _,Ie.zero _ _⟩
 case round =>
  obtain⟨j,hj,rfl,b5,hA⟩:=hrel;by_cases hlt:j<n
  ·obtain⟨D,x,T,e0,hD⟩:=Br ls j (by have:=hN.out;omega);have hls5:=hls.below b5;have hls6:=hls5;rw[e0]at hls6;obtain⟨g,off,rfl,c1,c2⟩:=hls6.1.line;have hxm:x∈ls:=by rw[e0];simp
   have hxs:=hsm.2 x hxm;obtain⟨ax,cx,e1⟩:=(hls5.2 x hxm).form;rw[hD]at c1 c2;rw[e1]at c2;have hPx:PL[j]?=some x.plain:=by rw[← hP.out,e0,← hD];simp
   have H1:∀(W:World),Below wr.heap.size wr W→Calls Tryz.prog 120 #[.string kind,.string x.key,.slice ax x.ws.length cx] W fun e w'=>e=.returned (.bool (Ds (rulesOf kind) x.key x.ws))∧Below W.heap.size W w':=by
    intro W hW;exact S3 kind x.key (e1 ▸ (hls5.below hW).2 x hxm) hxs.1 hxs.2
   have hfo:Iw (rulesOf kind) PL j x.plain↔Ds (rulesOf kind) x.key x.ws=true∧(j=0∨∃ b,PL[j - 1]?=some b∧lineLt (rulesOf kind) b x.plain=true):=Iff.rfl;go_upto_region 4 with fail
   go_cut [45] from 15 to 45 (fun c wx=>∃ B:Bool,c=.bool B∧(B=false↔Iw (rulesOf kind) PL j x.plain)∧Below wr.heap.size wr wx)
   case first =>
    have i0:(0:Int)≤(j:Int):=by omega
    have i1:(j:Int)<(n:Int):=by omega
    have k1:=fun p:Gr wr=>Ap c1 p
    have k2:=fun p:Gr wr=>Ap c2 p
    cases hf:Ds (rulesOf kind) x.key x.ws
    ·have HAH:=Aa (show true=false↔Iw (rulesOf kind) PL j x.plain by rw[hfo,hf];simp);have H1':=fun p:Gr wr=>H1 p.u p.h
     rw[hf]at H1';clear hls hls5 hls6 hsm hA e0 e1 hPx hfo hxs hf H1;generalize x.ws.length=nx at *;generalize x.key=xk at *;refine Bf (by kernel_rfl) (by kernel_rfl) ?_;iterate 11 quiet_step (fail)
     quiet_step ((go_at_call 120;refine Ff (H1' _)))
     iterate 2 quiet_step (fail)
     iterate 16 (with_reducible refine Bt ?_ ?_;kernel_rfl;simp only[Act.put,List.setIfInBounds_toArray,List.set_cons_zero,List.set_cons_succ])
     quiet_step (fail)
     refine wpQuiet_nil ?_;rintro _ ⟨⟨wq,bq⟩,rfl⟩;go_wp2_with fail
     go_meet;exact⟨true,rfl,HAH.out,bq⟩
    ·have H1':=fun p:Gr wr=>H1 p.u p.h
     rw[hf]at H1';by_cases hj0:j=0
     ·have HAH:=Aa (show True↔Iw (rulesOf kind) PL j x.plain by rw[hfo,hf];simp[hj0]);subst hj0;have hn0:0<n:=hlt;have k1':∀ p:Gr wr,p.u.cell? ⟨g,off,none⟩=some (.string x.key):=fun p=>by simpa using k1 p
      have k2':∀ p:Gr wr,p.u.cell? ⟨g,off+1,none⟩=some (.slice ax x.ws.length cx):=fun p=>by simpa using k2 p
      clear hls hls5 hls6 hsm hA e0 e1 hPx hfo hxs hf H1 k1 k2 i0 i1;generalize x.ws.length=nx at *;generalize x.key=xk at *;refine Bf (by kernel_rfl) (by kernel_rfl) ?_;iterate 11 quiet_step (fail)
      quiet_step ((go_at_call 120;refine Ff (H1' _)))
      iterate 5 quiet_step (fail)
      iterate 12 (with_reducible refine Bt ?_ ?_;kernel_rfl;simp only[Act.put,List.setIfInBounds_toArray,List.set_cons_zero,List.set_cons_succ])
      iterate 2 quiet_step (fail)
      refine wpQuiet_nil ?_;rintro _ ⟨⟨wq,bq⟩,rfl⟩;go_wp2_with fail
      go_meet;exact⟨false,rfl,⟨fun _=>HAH.out.1 trivial,fun _=>rfl⟩,bq⟩
     ·obtain⟨m,rfl⟩:∃ m,j=m+1:=⟨j - 1,by omega⟩;obtain⟨D',y,x',T',e0',hD'⟩:=Tf ls m (by have:=hN.out;omega);have hxx:x'=x∧T'=T:=by
       have h1:(D'++[y])++x'::T'=D++x::T:=by rw[← e0,e0'];simp
       have h2:=List.append_inj h1 (by simp;omega);simpa using h2.2
      obtain⟨rfl,rfl⟩:=hxx;have hym:y∈ls:=by rw[e0'];simp
      have hls7:=hls5;rw[e0']at hls7;obtain⟨g',off',eg,⟨d1,d2⟩,d3,d4⟩:=hls7.1.line2;cases eg
      obtain⟨ay,cy,e2⟩:=(hls5.2 y hym).form;rw[hD']at d1 d2;rw[e2]at d2;have hPy:PL[m]?=some y.plain:=by rw[← hP.out,e0',← hD'];simp
      have k3:=fun p:Gr wr=>Ap d1 p
      have k4:=fun p:Gr wr=>Ap d2 p
      have H2:∀ p:Gr wr,Calls Tryz.prog 121 #[.string kind,.agg #[.string y.key,.slice ay y.ws.length cy],.agg #[.string x'.key,.slice ax x'.ws.length cx]] p.u fun e w'=>e=.returned (.bool (lineLt (rulesOf kind) y.plain x'.plain))∧Below p.u.heap.size p.u w' :=
       fun p=>Kn kind y.plain x'.plain (e2 ▸ (hls5.below p.h).2 y hym) (e1 ▸ (hls5.below p.h).2 x' hxm) (hsm.2 y hym).1 (hsm.2 x' hxm).1
      have hfo':Iw (rulesOf kind) PL (m+1) x'.plain↔lineLt (rulesOf kind) y.plain x'.plain=true:=by
       rw[hfo,hf];constructor
       ·rintro⟨_,h | ⟨b,hb,hl⟩⟩
        ·omega
        ·rw[Nat.add_sub_cancel,hPy]at hb;cases hb;exact hl
       ·exact fun h=>⟨rfl,.inr ⟨y.plain,by rw[Nat.add_sub_cancel];exact hPy,h⟩⟩
      have i2:(0:Int)≤(m:Int):=by omega
      have i3:(m:Int)<(n:Int):=by omega
      have i4:IntKind.i64.wrap (m:Int)=(m:Int):=by rw[IntKind.wrap_i64];omega
      have i5:((m:Int)+1).toNat=m+1:=by omega
      have i6:(0:Int)<(m:Int)+1:=by omega
      have i7:(m:Int)+1<(n:Int):=by omega
      have i8:(0:Int)≤(m:Int)+1:=by omega
      have HAH:=Aa (show ((!lineLt (rulesOf kind) y.plain x'.plain)=false)↔Iw (rulesOf kind) PL (m+1) x'.plain by rw[hfo'];simp);clear hls hls5 hls6 hls7 hsm hA e0 e0' e1 e2 hPx hPy hfo hfo' hxs hf H1 d1 d2 d3 d4 hD hD' hxm hym;generalize lineLt (rulesOf kind) y.plain x'.plain=LT at *;generalize x'.ws.length=nx at *;generalize y.ws.length=ny at *;generalize x'.key=xk at *;generalize y.key=yk at *;refine Bf (by kernel_rfl) (by kernel_rfl) ?_;iterate 11 quiet_step (fail)
      quiet_step ((go_at_call 120;refine Ff (H1' _)))
      iterate 15 quiet_step (fail)
      quiet_step ((go_at_call 121;refine Ff (H2 _)))
      iterate 3 quiet_step (fail)
      refine wpQuiet_nil ?_;rintro _ ⟨⟨wq,bq⟩,rfl⟩;go_wp2_with fail
      go_meet;exact⟨!LT,rfl,HAH.out,bq⟩
   case rest =>
    obtain⟨B,rfl,hB,bq⟩:=hcut;obtain⟨w6,hw6⟩:∃ w6,w6=wc:=⟨_,rfl⟩;subst hw6;have b6:=b5.trans (bq.mono b5.size);cases B
    ·have hfirst:=hB.1 rfl;have hpk:Cp (rulesOf kind) x.key≠none:=fun e=>by have:=hfirst.1;rw[show x.plain.key=x.key from rfl,Dy _ e]at this;cases this
     have hplc:∃ P:Nat,placeI (rulesOf kind) x.key=(P:Int)∧∀(W:World),Calls Tryz.prog 56 #[.string kind] W fun e w'=>∃ g7 m7 c7,e=.returned (.slice (some ⟨g7,0,none⟩) m7 c7)∧((0:Int)≤(P:Int)∧(P:Int)<(m7:Int))∧w'.cell? ⟨g7,P * 4+2,none⟩=some (.bool (Fe (rulesOf kind) x.key))∧Below W.heap.size W w':=by
      obtain⟨p,hp'⟩:=Option.ne_none_iff_exists'.1 hpk;obtain⟨i,hi,hg,hkey⟩:=Ew hp';refine⟨i,hi,fun W=>(D5 kind W).mono ?_⟩;rintro e w' ⟨v,L,rfl,hpL,hrL,b7⟩;obtain⟨D7,r7,T7,rfl,hpl,hmany⟩:=Aga hpL hpk;have hD7:D7.length=i:=by omega
      obtain⟨ar,cr,rfl,f1⟩:=Ai (show w'.ownsRow W.heap.size 54 4 v (D7++r7::T7).length ((D7++r7::T7).flatMap Ce.cells) from A8.head hrL);rcases f1 with f1 | ⟨g7,rfl⟩
      ·simp at f1
      have hc:=(Cm.rm hrL).cell 2 (by decide);rw[hD7]at hc;refine⟨g7,_,cr,rfl,⟨by omega,by simp;omega⟩,?_,b7⟩;rw[hc,← hmany];rfl
     obtain⟨P,hP1,HSR⟩:=hplc;have HPL:∀ W,Calls Tryz.prog 90 #[.string kind,.string x.key] W fun e w'=>e=.returned (.int .i64 (P:Int))∧Below W.heap.size W w':=by rw[← hP1];exact fun W=>Km kind x.key W
     have hck:∀ W,Below w6.heap.size w6 W→W.cell? ⟨g,off+j * 2,none⟩=some (.string x.key):=fun W hW=>(hW.cell (World.block_lt_of_cell? w6 _ ((bq.cell (World.block_lt_of_cell? wr _ c1)).trans c1))).trans ((bq.cell (World.block_lt_of_cell? wr _ c1)).trans c1)
     have ckc:=hck w6 (Below.refl _ _);have i0:(0:Int)≤(j:Int):=by omega
     have i1:(j:Int)<(n:Int):=by omega
     have HC:=Aa (show ¬ ((Fe (rulesOf kind) x.key=true∨keyN (PL.take (j+1)) x.key≤1)∧keyN (PL.take (j+1)) x.key≤10)→false=linesB (rulesOf kind) PL from fun h=>Adw (a:=x.plain) hPx h);have HS:=Aa (show ((Fe (rulesOf kind) x.key=true∨keyN (PL.take (j+1)) x.key≤1)∧keyN (PL.take (j+1)) x.key≤10)→Ie (rulesOf kind) PL (j+1) from fun h2=>hA.succ hPx hfirst h2);have hlsC:=Aa (hls.below b6);have hE0:=Aa e0;clear hls hls5 hls6 hsm hA e0 e1 hPx hfo hxs H1 c1 c2 hpk hP1 hB hfirst;generalize hmn:Fe (rulesOf kind) x.key=many at *;generalize hxk:x.key=xk at *;have hXK:=Aa hxk;clear hmn hxk;go_upto_region 6 with fail
     go_cut [6] from 46 to 57 (fun c wx=>c=.bool many∧Below w6.heap.size w6 wx)
     case first =>
      clear HC HS hlsC hE0 hXK;have hdr:Below w6.heap.size w6 w6.drew:=(Below.refl _ _).drew
      go_region_with (first
       | (go_at_call 56;refine(HSR _).mono ?_;rintro e w7 ⟨g7,m7,c7,rfl,hm7,hc7,b7⟩;have b7':=b8'.trans (b7.mono b8'.size))
       | (go_at_call 56;refine(HSR _).mono ?_;rintro e w7 ⟨g7,m7,c7,rfl,hm7,hc7,b7⟩;have b7':=hdr.trans (b7.mono hdr.size);have ck7:=hck w7 b7')
       | (go_at_call 90;refine(HPL _).mono ?_;rintro e w8 ⟨rfl,b8⟩;have b8':=b7'.trans (b8.mono b7'.size);have hc8:=(b8.cell (World.block_lt_of_cell? _ _ hc7)).trans hc7)
       | (go_at_call 90;refine(HPL _).mono ?_;rintro e w8 ⟨rfl,b8⟩;have b8':=hdr.trans (b8.mono hdr.size)))
      all_goals
       go_wp2_with fail
       go_meet;exact⟨rfl,by first | exact b8' | exact b7'⟩
     case rest =>
      obtain⟨rfl,bc⟩:=hcut;obtain⟨w9,hw9⟩:∃ w9,w9=wc:=⟨_,rfl⟩;subst hw9;have b9:=b6.trans (bc.mono b6.size);have hlsD:=Aa (hlsC.out.below bc);clear HSR HPL hck ckc hlsC;go_wp2;go_loopw [7,8] (fun sc sk wx=>∃ k c:Nat,k≤j+1∧c≤k∧sk=.int .i64 (k:Int)∧sc=.int .i64 (c:Int)∧Below w9.heap.size w9 wx∧c=keyN (PL.take k) xk) (fun _ sk _=>j+1 - (intOf sk).toNat)
      case atStart=>exact⟨0,0,by omega,by omega,rfl,rfl,Below.refl _ _,by simp[keyN]⟩
      case round =>
       obtain⟨k,c,hk,hck2,rfl,rfl,bx,hcc⟩:=hrel;have b10:=b9.trans (bx.mono b9.size);by_cases hlt3:k<j+1
       ·obtain⟨D',y,T',e1,hD'⟩:=Br ls k (by have:=hN.out;omega);have h1:=hlsD.out.below bx;have h2:=h1;rw[e1]at h1;rw[hE0.out]at h2;obtain⟨g',off',eg,d1,_⟩:=h1.1.line;cases eg
        obtain⟨g',off',eg,d2,_⟩:=h2.1.line;cases eg
        rw[hD']at d1;rw[hD,hXK.out]at d2;have hst:=fun B hb=>Abz (D:=D') (r:=y) (T:=T') (key:=xk) (c:=c) (by rw[hD',← e1,hP.out];exact hcc) B hb
        rw[← e1,hP.out,hD']at hst;have hst':=Aa hst;have i2:(0:Int)≤(k:Int):=by omega
        have i3:(k:Int)<(n:Int):=by omega
        have i4:(k:Int)≤(j:Int):=by omega
        clear h1 h2 e1 HC HS hlsD hcc hst;generalize y.key=yk at *;cases hkk:(yk.toList == xk.toList)
        ·have HA:=Aa (hst'.out false hkk);clear hst';go_wp2;go_quiet (fail)
         go_wp2;go_roundw;case rel=>exact⟨k+1,c,by omega,by omega,by go_num,rfl,below_drewN bx _,HA.out⟩
         case measure=>simp[intOf];omega
        ·have HA:=Aa (hst'.out true hkk);clear hst';go_wp2;go_quiet (fail)
         go_wp2;go_roundw;case rel=>exact⟨k+1,c+1,by omega,by omega,by go_num,by go_num,below_drewN bx _,HA.out⟩
         case measure=>simp[intOf];omega
       ·obtain rfl:k=j+1:=by omega
        have HC':=HC.out;have HS':=HS.out;rw[← hcc]at HC' HS';have i4:¬ (((j+1:Nat):Int)≤(j:Int)):=by omega
        have i5:¬ ((j:Int)+1≤(j:Int)):=by omega
        clear HC HS hlsD hcc;cases many
        ·by_cases h1:c≤1
         ·have HA:=HS' ⟨.inr h1,by omega⟩;clear HC' HS';go_wp2;go_roundw;case rel=>exact⟨j+1,by omega,by go_num,b10,HA⟩
          case measure=>simp[intOf];omega
         ·have HA:=Aa (HC' (fun h=>by rcases h.1 with h | h;cases h;omega))
          clear HC' HS';go_wp2;go_ret;exact⟨Av HA.out,b10⟩
        ·by_cases h1:c≤10
         ·have HA:=HS' ⟨.inl rfl,h1⟩;clear HC' HS';go_wp2;go_roundw;case rel=>exact⟨j+1,by omega,by go_num,b10,HA⟩
          case measure=>simp[intOf];omega
         ·have HA:=Aa (HC' (fun h=>by omega));clear HC' HS';go_wp2;go_ret;exact⟨Av HA.out,b10⟩
    ·have HA:=Aa (Zb hPx (fun h=>by have:=hB.2 h;cases this));clear hls hls5 hls6 hsm hA e0 e1 hPx hfo hxs H1 c1 c2 hB;go_wp2;go_ret;exact⟨Av HA.out,b6⟩
  ·obtain rfl:j=n:=by omega
   have HA:=Aa (Ie.all (by rw[hPN.out];exact hA));clear hls hsm hA;go_wp2;go_ret;exact⟨Av HA.out,b5⟩
variable {md:Region.Mode}{k:Nat}{listed:Array Bool}{b:PBlock}{bs:List BAt}
theorem Nl{fuel:Nat}(hr:Region.ready md ops listed=[k])(ho:ops[k]?=some o)
  (h:∀ K:Act→World→Prop,(∀ a w,wpAny P md ops Q fuel (listed.setIfInBounds k true) a w→K a w)→if Region.wanted o (yielded ops a.tmps)=true then Oper.wp P o a w K Q else K (a.put o.dst undef) w):wpAny P md ops Q (fuel+1) listed a w :=
 wpAny_ready hr (by simp) (AllReady.cons ho (fun K hK=>h K hK) AllReady.nil)
theorem Adx{l0:List Oper}(k n:Nat)(hs:Region.noSelect l0.toArray=true)(hn:(l0.drop k).length=n)(hB:Region.lexFrom md l0.toArray n k listed=true)
  (h:wpQuiet P l0.toArray (fun w'=>∃ p:Gr w,w'=p.u) (fun a'=>∀ w',(∃ p:Gr w,w'=p.u)→Q .normal a' w') (l0.drop k) a):wpAny P md l0.toArray Q n listed a w:=by
 subst hn;exact wpAny_of_quiet (Q:=fun a'=>∀ w',(∃ p:Gr w,w'=p.u)→Q .normal a' w') (fun _ w' hw' h=>h w' hw') _ _ _ _ ⟨⟨w,Below.refl _ _⟩,rfl⟩ (wpAnyQ_lex hs (l0.drop k) k listed a (fun j=>by simp) hB h)
def Ge(bs:List PBlock)(k:Nat):Prop:=∀ i,i<k→M7 bs i
theorem Ge.zero(bs:List PBlock):Ge bs 0:=fun _ h=>by omega
theorem Ge.all{bs:List PBlock}(h:Ge bs bs.length)(hl:bs.length≤60):true=Ca bs:=by
 rw[eq_comm,Bh];exact L9 hl h
def Gf(bs:List PBlock)(i:Nat)(b:PBlock):Prop:=(rulesOf b.kind).length≠0∧nameB b.name.data.toList=true∧linesB (rulesOf b.kind) b.lines=true∧(i=0∨∃ a,bs[i - 1]?=some a∧blockLt a b=true)
theorem Zc{bs:List PBlock}(hb:bs[i]?=some b)(h:¬ Gf bs i b):false=Ca bs:=by
 rw[eq_comm,← Bool.not_eq_true,Bh];intro hok;obtain⟨c,hc,h1,h2,h3,h4⟩:=S8 hok i (List.getElem?_eq_some_iff.1 hb).1;rw[hb]at hc;cases hc
 exact h ⟨h1,h2,Cg.2 h3,h4⟩
theorem Ge.succ{bs:List PBlock}(h:Ge bs i)(hb:bs[i]?=some b)(h1:Gf bs i b):Ge bs (i+1):=by
 intro j hj;by_cases e:j=i
 ·subst e;exact⟨b,hb,h1.1,h1.2.1,Cg.1 h1.2.2.1,h1.2.2.2⟩
 ·exact h j (by omega)
theorem Agb{bs:List PBlock}(h:¬ bs.length≤60):false=Ca bs:=by
 rw[eq_comm,← Bool.not_eq_true,Bh];exact fun hok=>h hok.1
theorem C6(hbs:Aw w v bs)(hsm:A2 bs):Calls Tryz.prog 14 #[.agg #[v]] w fun e w'=>e=.returned (.bool (Ca (bs.map BAt.plain)))∧Below w.heap.size w w':=by
 obtain⟨al,cl,rfl⟩:=hbs.1.form;have hn20:=hsm.1;have b0:Below w.heap.size w (w.alloc (.cells #[.slice al bs.length cl] 25)):=(Below.refl _ _).alloc (Nat.le_refl _) _;have p0:=Bg (w:=w) (cs:=#[.slice al bs.length cl]) (T:=25) 0;simp only[List.getElem?_toArray,List.getElem?_cons_zero]at p0;generalize hn:bs.length=n at *;generalize hPL:bs.map BAt.plain=PL;have hP:=Aa hPL;have hN:=Aa hn;have hPN:=Aa (show PL.length=n by rw[← hPL,List.length_map,hn]);clear hPL hn;by_cases h60:n≤60
 ·go_enter Tryz.func14,Tryz.ntmps14;go_wp2;generalize hW0:w.alloc (.cells #[.slice al n cl] 25)=w1 at *;clear hW0;go_loopw [3] (fun i wr=>∃ j:Nat,j≤n∧i=.int .i64 (j:Int)∧Below w1.heap.size w1 wr∧Ge PL j) (fun i _=>n - (intOf i).toNat)
  case atStart=>exact⟨0,by omega,rfl,Below.refl _ _,Ge.zero _⟩
  case round =>
   obtain⟨j,hj,rfl,hbw,hA⟩:=hrel;have b5:=b0.trans (hbw.mono b0.size);have p0':=(hbw.cell (p:=⟨w.heap.size,0,none⟩) (World.block_lt_of_cell? w1 _ p0)).trans p0;by_cases hlt:j<n
   ·obtain⟨D,x,T,e0,hD⟩:=Br bs j (by have:=hN.out;omega);have hbs5:=hbs.below b5;have hbs6:=hbs5;rw[e0]at hbs6;obtain⟨g,off,rfl,c1,c2,c3⟩:=hbs6.1.block;have hxm:x∈bs:=by rw[e0];simp
    have hxs:=hsm.2 x hxm;obtain⟨ax,cx,e1⟩:=(hbs5.2 x hxm).1.form;rw[hD]at c1 c2 c3;rw[e1]at c3;have hPx:PL[j]?=some x.plain:=by rw[← hP.out,e0,← hD];simp
    have i0:(0:Int)≤(j:Int):=by omega
    have i1:(j:Int)<(n:Int):=by omega
    have HSR:∀ W,Calls Tryz.prog 56 #[.string x.kind] W fun e w'=>∃ a7 c7,e=.returned (.slice a7 (rulesOf x.kind).length c7)∧Below W.heap.size W w':=by
     intro W;refine(D5 x.kind W).mono ?_;rintro e w' ⟨v,L,rfl,hpL,hrL,b7⟩;obtain⟨ar,cr,rfl,_⟩:=Ai (show w'.ownsRow W.heap.size 54 4 v L.length (L.flatMap Ce.cells) from A8.head hrL);exact⟨ar,cr,by rw[← hpL,List.length_map],b7⟩
    have HNM:∀ W,Calls Tryz.prog 57 #[.string x.name] W fun e w'=>e=.returned (.bool (nameB x.name.data.toList))∧Below W.heap.size W w':=fun W=>(L3 x.name W hxs.1).mono fun e w' ⟨he,hw⟩=>⟨he,hw ▸ Below.refl _ _⟩
    have HLN:∀ W,Below wr.heap.size wr W→Calls Tryz.prog 58 #[.string x.kind,.slice ax x.ls.length cx] W fun e w'=>e=.returned (.bool (linesB (rulesOf x.kind) (x.ls.map LAt.plain)))∧Below W.heap.size W w':=fun W hW=>Rk x.kind (e1 ▸ (hbs5.below hW).2 x hxm) hxs.2
    have hbo:Gf PL j x.plain↔(rulesOf x.kind).length≠0∧nameB x.name.data.toList=true∧linesB (rulesOf x.kind) (x.ls.map LAt.plain)=true∧(j=0∨∃ a,PL[j - 1]?=some a∧blockLt a x.plain=true):=Iff.rfl;have HY:=Aa (show j≠0→∃ y ay cy,PL[j - 1]?=some (BAt.plain y)∧(wr.cell? ⟨g,off+(j - 1) * 3,none⟩=some (.string y.kind)∧wr.cell? ⟨g,off+(j - 1) * 3+1,none⟩=some (.string y.name)∧wr.cell? ⟨g,off+(j - 1) * 3+2,none⟩=some (.slice ay y.ls.length cy)) from by
     intro hj0;obtain⟨D',y,x',T',e0',hD'⟩:=Tf bs (j - 1) (by have:=hN.out;omega);have hbs7:=hbs5;rw[e0']at hbs7;obtain⟨g',off',eg,⟨d1,d2,d3⟩,_⟩:=hbs7.1.block2;cases eg
     obtain⟨ay,cy,e2⟩:=(hbs5.2 y (by rw[e0'];simp)).1.form;rw[hD']at d1 d2 d3;rw[e2]at d3;exact⟨y,ay,cy,by rw[← hP.out,e0',← hD'];simp,d1,d2,d3⟩)
    have HC:=Aa (show ¬ Gf PL j x.plain→false=Ca PL from fun h=>Zc hPx h);have HS:=Aa (show Gf PL j x.plain→Ge PL (j+1) from fun h=>hA.succ hPx h);have HAHx:∀(y:BAt) ay cy W,Calls Tryz.prog 59 #[.agg #[.string y.kind,.string y.name,.slice ay y.ls.length cy],.agg #[.string x.kind,.string x.name,.slice ax x.ls.length cx]] W fun e w'=>e=.returned (.bool (blockLt y.plain x.plain))∧Below W.heap.size W w':=fun y ay cy W=>N5 y.plain x.plain y.ls.length x.ls.length cy cx ay ax W
    go_upto_region 7 with fail
    go_cut [54] from 21 to 54 (fun c wx=>∃ B:Bool,c=.bool B∧(B=false↔Gf PL j x.plain)∧Below wr.heap.size wr wx)
    case first =>
     have g6:Below wr.heap.size wr (wr.alloc (.cells #[.string x.kind,.string x.name,.slice ax x.ls.length cx] 46)):=(Below.refl _ _).alloc (Nat.le_refl _) _;have k0:=(g6.cell (p:=⟨w.heap.size,0,none⟩) (World.block_lt_of_cell? wr _ p0')).trans p0';have k1:=Bg (w:=wr) (cs:=#[.string x.kind,.string x.name,.slice ax x.ls.length cx]) (T:=46) 0;have k2:=Bg (w:=wr) (cs:=#[.string x.kind,.string x.name,.slice ax x.ls.length cx]) (T:=46) 1;have k3:=Bg (w:=wr) (cs:=#[.string x.kind,.string x.name,.slice ax x.ls.length cx]) (T:=46) 2;simp only[List.getElem?_toArray,List.getElem?_cons_zero,List.getElem?_cons_succ]at k1 k2 k3;clear hbs hbs5 hbs6 hsm hA e0 e1 hPx hxs HC HS c1 c2 c3 hxm hD p0 p0' hN hP hPN;generalize linesB (rulesOf x.kind) (x.ls.map LAt.plain)=LB at *;generalize nameB x.name.data.toList=NB at *;generalize (rulesOf x.kind).length=nr at *;generalize x.ls.length=nx at *;generalize x.kind=xk at *;generalize x.name=xn at *;generalize wr.alloc (.cells #[.string xk,.string xn,.slice ax nx cx] 46)=W0 at *;refine wp_region_any (by kernel_rfl) ?_;refine Nl (k:=0) (by kernel_rfl) rfl (fun K hK=>?_);go_simp;refine hK _ _ ?_;clear hK K;refine Nl (k:=1) (by kernel_rfl) rfl (fun K hK=>?_);go_simp;refine hK _ _ ?_;clear hK K;refine Nl (k:=2) (by kernel_rfl) rfl (fun K hK=>?_);go_simp;refine(HSR _).mono ?_;rintro e w7 ⟨a7,c7,rfl,b7⟩;refine hK _ _ ?_;clear hK K HSR;have g6d:=g6.drew;have bW7:=g6d.trans (b7.mono g6d.size);have q0:=fun p:Gr w7=>Ap ((b7.cell (p:=⟨w.heap.size,0,none⟩) (World.block_lt_of_cell? W0 _ k0)).trans k0) p
     have q1:=fun p:Gr w7=>Ap ((b7.cell (p:=⟨wr.heap.size,0,none⟩) (World.block_lt_of_cell? W0 _ k1)).trans k1) p
     have q2:=fun p:Gr w7=>Ap ((b7.cell (p:=⟨wr.heap.size,1,none⟩) (World.block_lt_of_cell? W0 _ k2)).trans k2) p
     have q3:=fun p:Gr w7=>Ap ((b7.cell (p:=⟨wr.heap.size,2,none⟩) (World.block_lt_of_cell? W0 _ k3)).trans k3) p
     have HLN':=fun p:Gr w7=>HLN p.u (bW7.trans (p.h.mono bW7.size))
     have HY':=Aa (show j≠0→∃ y ay cy,PL[j - 1]?=some (BAt.plain y)∧∀ p:Gr w7,(p.u.cell? ⟨g,off+(j - 1) * 3,none⟩=some (.string y.kind)∧p.u.cell? ⟨g,off+(j - 1) * 3+1,none⟩=some (.string y.name)∧p.u.cell? ⟨g,off+(j - 1) * 3+2,none⟩=some (.slice ay y.ls.length cy)) from by
      intro hj0;obtain⟨y,ay,cy,hy,d1,d2,d3⟩:=HY.out hj0;have hk:∀ {a:Addr} {v:Value},wr.cell? a=some v→w7.cell? a=some v:=fun h=>(bW7.cell (World.block_lt_of_cell? wr _ h)).trans h
      exact⟨y,ay,cy,hy,fun p=>⟨Ap (hk d1) p,Ap (hk d2) p,Ap (hk d3) p⟩⟩)
     clear k0 k1 k2 k3 HLN HY;refine Adx 3 31 (by kernel_rfl) (by rfl) (by kernel_rfl) ?_;simp only[List.drop_succ_cons,List.drop_zero];by_cases hnr:nr=0
     ·have HB:=Aa (show true=false↔Gf PL j x.plain by rw[hbo,hnr];simp);subst hnr;clear hbo HLN' HNM HY';iterate 3 quiet_step (fail)
      iterate 4 (with_reducible refine Bt ?_ ?_;kernel_rfl;simp only[Act.put,List.setIfInBounds_toArray,List.set_cons_zero,List.set_cons_succ])
      iterate 2 quiet_step (fail)
      iterate 6 (with_reducible refine Bt ?_ ?_;kernel_rfl;simp only[Act.put,List.setIfInBounds_toArray,List.set_cons_zero,List.set_cons_succ])
      iterate 2 quiet_step (fail)
      iterate 3 (with_reducible refine Bt ?_ ?_;kernel_rfl;simp only[Act.put,List.setIfInBounds_toArray,List.set_cons_zero,List.set_cons_succ])
      iterate 9 (with_reducible refine Bt ?_ ?_;kernel_rfl;simp only[Act.put,List.setIfInBounds_toArray,List.set_cons_zero,List.set_cons_succ])
      iterate 1 (with_reducible refine Bt ?_ ?_;kernel_rfl;simp only[Act.put,List.setIfInBounds_toArray,List.set_cons_zero,List.set_cons_succ])
      quiet_step (fail)
      refine wpQuiet_nil ?_;rintro _ ⟨⟨wq,bq⟩,rfl⟩;have hbq:=bW7.trans (bq.mono bW7.size);go_wp2_with fail
      go_meet;exact⟨true,rfl,HB.out,hbq⟩
     have hnr':((nr:Int) == 0)=false:=by rw[beq_eq_false_iff_ne];omega
     cases NB
     ·have HB:=Aa (show true=false↔Gf PL j x.plain by rw[hbo];simp);clear hbo HLN' HY' hnr;iterate 5 quiet_step (fail)
      quiet_step ((go_at_call 57;refine Ff (HNM _)))
      iterate 3 quiet_step (fail)
      iterate 6 (with_reducible refine Bt ?_ ?_;kernel_rfl;simp only[Act.put,List.setIfInBounds_toArray,List.set_cons_zero,List.set_cons_succ])
      iterate 2 quiet_step (fail)
      iterate 3 (with_reducible refine Bt ?_ ?_;kernel_rfl;simp only[Act.put,List.setIfInBounds_toArray,List.set_cons_zero,List.set_cons_succ])
      iterate 9 (with_reducible refine Bt ?_ ?_;kernel_rfl;simp only[Act.put,List.setIfInBounds_toArray,List.set_cons_zero,List.set_cons_succ])
      iterate 1 (with_reducible refine Bt ?_ ?_;kernel_rfl;simp only[Act.put,List.setIfInBounds_toArray,List.set_cons_zero,List.set_cons_succ])
      quiet_step (fail)
      refine wpQuiet_nil ?_;rintro _ ⟨⟨wq,bq⟩,rfl⟩;have hbq:=bW7.trans (bq.mono bW7.size);go_wp2_with fail
      go_meet;exact⟨true,rfl,HB.out,hbq⟩
     cases LB
     ·have HB:=Aa (show true=false↔Gf PL j x.plain by rw[hbo];simp);clear hbo HY' hnr;iterate 5 quiet_step (fail)
      quiet_step ((go_at_call 57;refine Ff (HNM _)))
      iterate 3 quiet_step (fail)
      iterate 4 quiet_step (fail)
      quiet_step ((go_at_call 58;refine Ff (HLN' _)))
      iterate 3 quiet_step (fail)
      iterate 3 (with_reducible refine Bt ?_ ?_;kernel_rfl;simp only[Act.put,List.setIfInBounds_toArray,List.set_cons_zero,List.set_cons_succ])
      iterate 9 (with_reducible refine Bt ?_ ?_;kernel_rfl;simp only[Act.put,List.setIfInBounds_toArray,List.set_cons_zero,List.set_cons_succ])
      iterate 1 (with_reducible refine Bt ?_ ?_;kernel_rfl;simp only[Act.put,List.setIfInBounds_toArray,List.set_cons_zero,List.set_cons_succ])
      quiet_step (fail)
      refine wpQuiet_nil ?_;rintro _ ⟨⟨wq,bq⟩,rfl⟩;have hbq:=bW7.trans (bq.mono bW7.size);go_wp2_with fail
      go_meet;exact⟨true,rfl,HB.out,hbq⟩
     by_cases hj0:j=0
     ·have HB:=Aa (show True↔Gf PL j x.plain by rw[hbo];simp[hnr,hj0]);subst hj0;clear hbo HY' hnr i0 i1;iterate 5 quiet_step (fail)
      quiet_step ((go_at_call 57;refine Ff (HNM _)))
      iterate 3 quiet_step (fail)
      iterate 4 quiet_step (fail)
      quiet_step ((go_at_call 58;refine Ff (HLN' _)))
      iterate 3 quiet_step (fail)
      iterate 3 quiet_step (fail)
      iterate 9 (with_reducible refine Bt ?_ ?_;kernel_rfl;simp only[Act.put,List.setIfInBounds_toArray,List.set_cons_zero,List.set_cons_succ])
      iterate 2 quiet_step (fail)
      refine wpQuiet_nil ?_;rintro _ ⟨⟨wq,bq⟩,rfl⟩;have hbq:=bW7.trans (bq.mono bW7.size);go_wp2_with fail
      go_meet;exact⟨false,rfl,⟨fun _=>HB.out.1 trivial,fun _=>rfl⟩,hbq⟩
     ·obtain⟨y,ay,cy,hPy,hyc⟩:=HY'.out hj0;obtain⟨m,rfl⟩:∃ m,j=m+1:=⟨j - 1,by omega⟩;simp only[Nat.add_sub_cancel]at hPy hyc hbo;have q4:=fun p=>(hyc p).1
      have q5:=fun p=>(hyc p).2.1
      have q6:=fun p=>(hyc p).2.2
      have HAH:∀ p:Gr w7,Calls Tryz.prog 59 #[.agg #[.string y.kind,.string y.name,.slice ay y.ls.length cy],.agg #[.string xk,.string xn,.slice ax nx cx]] p.u fun e w'=>e=.returned (.bool (blockLt y.plain x.plain))∧Below p.u.heap.size p.u w':=fun p=>HAHx y ay cy p.u
      have HB:=Aa (show ((!blockLt y.plain x.plain)=false)↔Gf PL (m+1) x.plain by
       rw[hbo];constructor
       ·intro h;exact⟨hnr,trivial,trivial,.inr ⟨y.plain,hPy,by simpa using h⟩⟩
       ·rintro⟨_,_,_,h | ⟨a,ha,hl⟩⟩
        ·omega
        ·rw[hPy]at ha;cases ha;rw[hl];rfl)
      have i2:(0:Int)≤(m:Int):=by omega
      have i3:(m:Int)<(n:Int):=by omega
      have i4:IntKind.i64.wrap (m:Int)=(m:Int):=by rw[IntKind.wrap_i64];omega
      have i5:((m:Int)+1).toNat=m+1:=by omega
      have i6:(0:Int)<(m:Int)+1:=by omega
      clear hbo HY' hnr hyc hPy hj0;generalize blockLt y.plain x.plain=LT at *;generalize y.kind=yk at *;generalize y.name=yn at *;generalize y.ls.length=ny at *;iterate 5 quiet_step (fail)
      quiet_step ((go_at_call 57;refine Ff (HNM _)))
      iterate 3 quiet_step (fail)
      iterate 4 quiet_step (fail)
      quiet_step ((go_at_call 58;refine Ff (HLN' _)))
      iterate 3 quiet_step (fail)
      iterate 10 quiet_step (fail)
      quiet_step ((go_at_call 59;refine Ff (HAH _)))
      iterate 3 quiet_step (fail)
      refine wpQuiet_nil ?_;rintro _ ⟨⟨wq,bq⟩,rfl⟩;have hbq:=bW7.trans (bq.mono bW7.size);go_wp2_with fail
      go_meet;exact⟨!LT,rfl,HB.out,hbq⟩
    case rest =>
     obtain⟨B,rfl,hB,bq⟩:=hcut;have b6:=b5.trans (bq.mono b5.size);have b16:=hbw.trans (bq.mono hbw.size);cases B
     ·have HA:=HS.out (hB.1 rfl);clear hbs hbs5 hbs6 hsm hA e0 e1 hPx hxs HC HS c1 c2 c3 hxm hD hN hP hPN HSR HNM HLN HY hbo HAHx hB;go_wp2;go_roundw;case rel=>exact⟨j+1,by omega,by go_num,b16,HA⟩
      case measure=>simp[intOf];omega
     ·have HA:=Aa (HC.out (fun h=>by have:=hB.2 h;cases this));clear hbs hbs5 hbs6 hsm hA e0 e1 hPx hxs HC HS c1 c2 c3 hxm hD hN hP hPN HSR HNM HLN HY hbo HAHx hB;go_wp2;go_ret;exact⟨Av HA.out,b6⟩
   ·obtain rfl:j=n:=by omega
    have HA:=Aa (Ge.all (by rw[hPN.out];exact hA) (by rw[hPN.out];exact h60));clear hbs hsm hA;go_wp2;go_ret;exact⟨Av HA.out,b5⟩
 ·have HA:=Aa (Agb (bs:=PL) (by rw[hPN.out];exact h60));have h61:(60:Int)<(n:Int):=by omega
  clear hbs hsm;go_enter Tryz.func14,Tryz.ntmps14;go_wp2;go_ret;exact⟨Av HA.out,b0⟩
variable {α:Type}{j:Nat}{va vb:Value}{ys:List (List UInt8)}
theorem Aez(x y:List UInt8):((⟨x.toArray⟩:ByteArray).toList != (⟨y.toArray⟩:ByteArray).toList)=!decide (x=y):=by
 rw[ByteArray.toList_eq,ByteArray.toList_eq];by_cases h:x=y
 ·simp[h]
 ·simp[h]
theorem Acq{xs ys:List α}(h:xs.take j=ys.take j)(hx:j<xs.length)(hy:j<ys.length)(e:xs[j]=ys[j]):xs.take (j+1)=ys.take (j+1):=by
 rw[List.take_succ_eq_append_getElem hx,List.take_succ_eq_append_getElem hy,h,e]
theorem Ae0{xs:List (List UInt8)}(ha:An w va xs.length 1 (strs xs))(hb:An w vb ys.length 1 (strs ys))(hn:xs.length≤1048576):Calls Tryz.prog 96 #[va,vb] w fun e w'=>e=.returned (.bool (decide (xs=ys)))∧Below w.heap.size w w':=by
 obtain⟨ao,ca,rfl⟩:=ha.form;obtain⟨bo,cb,rfl⟩:=hb.form;by_cases hlen:xs.length=ys.length
 ·have hA:=Aa ha;have hB:=Aa hb;have HD:=Aa (show ∀ b:Bool,(b=true↔xs=ys)→b=decide (xs=ys) from fun b h=>by
   by_cases e:xs=ys
   ·rw[h.2 e];simp[e]
   ·have:b=false:=by cases b;rfl;exact absurd (h.1 rfl) e
    rw[this];simp[e])
  rw[← hlen];generalize hN:xs.length=n at *;have eN:=Aa hN;have eL:=Aa hlen;clear ha hb hN hlen;have hn0:((n:Int) != (n:Int))=false:=by simp
  go_enter Tryz.func96,Tryz.ntmps96;go_wp2;go_loopw [5] (fun i wr=>∃ j:Nat,j≤n∧i=.int .i64 (j:Int)∧Hid (xs.take j=ys.take j)∧Below w.heap.size w wr) (fun i _=>n - (intOf i).toNat)
  case atStart=>exact⟨0,by omega,rfl,(by simp:xs.take 0=ys.take 0),Below.refl _ _⟩
  case round =>
   obtain⟨j,hj,rfl,ht,bw⟩:=hrel;by_cases hlt:j<n
   ·have hx:j<xs.length:=by rw[eN.out];exact hlt
    have hy:j<ys.length:=by rw[← eL.out];exact hlt
    obtain⟨g,off,rfl,ca1⟩:=(hA.out.below bw).word j hx;obtain⟨g',off',rfl,cb1⟩:=(hB.out.below bw).word j hy;have hne:=Aa (Aez xs[j] ys[j]);have i1:(0:Int)≤(j:Int):=by omega
    have i2:(j:Int)<(n:Int):=by omega
    have hstep:=Aa (show xs[j]=ys[j]→xs.take (j+1)=ys.take (j+1) from Acq ht.out hx hy);have hdiff:=Aa (show ¬ xs[j]=ys[j]→false=decide (xs=ys) from fun he=>HD.out false ⟨(fun h=>by cases h),(fun h=>absurd (by subst h;rfl) he)⟩);clear ht HD hA hB;have v1:=fun p:Gr wr=>Ap ca1 p
    have v2:=fun p:Gr wr=>Ap cb1 p
    clear ca1 cb1;generalize hNE:(!decide (xs[j]=ys[j]))=NE at hne;have eNE:=Aa hNE;clear hNE;generalize (⟨xs[j].toArray⟩:ByteArray)=x at *;generalize (⟨ys[j].toArray⟩:ByteArray)=y at *;go_upto_region 6 with fail
    go_cut [25] from 17 to 25 (fun c wx=>c=.bool NE∧Below wr.heap.size wr wx)
    case first =>
     clear hstep hdiff eNE eN eL;refine Bf (by kernel_rfl) (by kernel_rfl) ?_;iterate 9 quiet_step (fail)
     refine wpQuiet_nil ?_;rintro _ ⟨⟨wq,bq⟩,rfl⟩;go_wp2_with fail
     go_meet;exact⟨by rw[← hne.out];first | rfl | simp,bq⟩
    case rest =>
     obtain⟨wk,hwk⟩:∃ wk,wk=wc:=⟨_,rfl⟩;subst hwk;obtain⟨rfl,bk⟩:=hcut;have BK:=bw.trans (bk.mono bw.size);clear v1 v2 hne;cases NE
     ·have ht':Hid (xs.take (j+1)=ys.take (j+1)):=hstep.out (by simpa using eNE.out);clear hstep hdiff eNE eN eL;go_wp2;go_roundw;case rel=>exact⟨j+1,by omega,by go_num,ht',BK⟩
      case measure=>simp[intOf];omega
     ·have hr:=Aa (hdiff.out (by simpa using eNE.out));clear hstep hdiff eNE eN eL;go_wp2;go_ret;exact⟨congrArg (fun b=>Ending.returned (Value.bool b)) hr.out,BK⟩
   ·obtain rfl:j=n:=by omega
    have hr:=Aa (HD.out true ⟨fun _=>by
     have:=ht.out;rw[List.take_of_length_le (by rw[eN.out];exact Nat.le_refl _),List.take_of_length_le (by rw[← eL.out];exact Nat.le_refl _)]at this;exact this,fun _=>rfl⟩)
    clear ht HD hA hB eN eL;go_wp2;go_ret;exact⟨congrArg (fun b=>Ending.returned (Value.bool b)) hr.out,bw⟩
 ·have hr:decide (xs=ys)=false:=by
   rw[decide_eq_false_iff_not];exact fun e=>hlen (by rw[e])
  rw[hr];have hn0:((xs.length:Int) != (ys.length:Int))=true:=by simp;omega
  clear ha hb;generalize xs.length=n at *;generalize ys.length=m at *;go_enter Tryz.func96,Tryz.ntmps96;go_wp2;go_ret;exact⟨rfl,Below.refl _ _⟩
open Classical in
noncomputable def eqB{α:Type}(a b:α):Bool:=decide (a=b)
theorem Fm{a b:α}(h:a=b):eqB a b=true:=by unfold eqB;simp[h]
theorem H0{a b:α}(h:a≠b):eqB a b=false:=by unfold eqB;simp[h]
theorem Pm{a b:α}:eqB a b=true↔a=b:=by unfold eqB;simp
theorem Vg(a b:ByteArray):(a.toList != b.toList)=!eqB a b:=by
 by_cases h:a=b
 ·rw[Fm h,h];simp
 ·rw[H0 h];simp only[bne_iff_ne,ne_eq,Bool.not_false];exact fun e=>h (toList_inj e)
theorem X0{xs ys:List LAt}(ha:Ah w va xs)(hb:Ah w vb ys)(hs:Ae xs):Calls Tryz.prog 31 #[va,vb] w fun e w'=>e=.returned (.bool (eqB (xs.map LAt.plain) (ys.map LAt.plain)))∧Below w.heap.size w w':=by
 obtain⟨ao,ca,rfl⟩:=ha.1.form;obtain⟨bo,cb,rfl⟩:=hb.1.form;by_cases hlen:xs.length=ys.length
 ·have hA:=Aa ha;have hB:=Aa hb;have hS:=Aa hs;have hl:=hs.1;rw[← hlen];generalize hN:xs.length=n at *;have eN:=Aa hN;have eL:=Aa hlen;clear ha hb hs hN hlen;have hn0:((n:Int) != (n:Int))=false:=by simp
  go_enter Tryz.func31,Tryz.ntmps31;go_wp2;go_loopw [5] (fun i wr=>∃(D T D' T':List LAt),i=.int .i64 (D.length:Int)∧D.length≤n∧Hid (xs=D++T∧ys=D'++T'∧D.length=D'.length∧D.map LAt.plain=D'.map LAt.plain)∧Below w.heap.size w wr) (fun i _=>n - (intOf i).toNat)
  case atStart=>exact⟨[],xs,[],ys,rfl,by simp,(⟨rfl,rfl,rfl,rfl⟩:xs=[]++xs∧ys=[]++ys∧_),Below.refl _ _⟩
  case round =>
   obtain⟨D,T,D',T',rfl,hDl,hsp,bw⟩:=hrel;cases T with
   | nil =>
    have hDn:D.length=n:=by rw[← eN.out,hsp.out.1];simp
    have hno:¬ ((D.length:Int)<(n:Int)):=by omega
    have hr:=Aa (show true=eqB (xs.map LAt.plain) (ys.map LAt.plain) from by
     obtain⟨e1,e2,e3,e4⟩:=hsp.out;have:T'=[]:=by
      have h1:=eL.out;have h2:=congrArg List.length e2;rw[List.length_append]at h2;exact List.length_eq_zero_iff.1 (by omega)
     subst this;rw[List.append_nil]at e1 e2;rw[e1,e2,Fm e4])
    clear hsp hA hB hS eN eL;go_wp2;go_ret;exact⟨congrArg (fun b=>Ending.returned (Value.bool b)) hr.out,bw⟩
   | cons x T =>
    obtain⟨e1,e2,e3,e4⟩:=hsp.out;have hDn:D.length<n:=by have h1:=eN.out;rw[e1]at h1;simp at h1;omega
    obtain⟨y,T'',rfl⟩:∃ y T'',T'=y::T'':=by
     cases T' with
     | nil =>
      exfalso;have h1:=eL.out;have h2:=congrArg List.length e2;simp at h2;omega
     | cons y t=>exact⟨y,t,rfl⟩
    have hxm:x∈xs:=by rw[e1];simp
    have hym:y∈ys:=by rw[e2];simp
    have hA':=hA.out.below bw;have hB':=hB.out.below bw;have hAr:=hA'.1;have hBr:=hB'.1;rw[e1]at hAr;rw[e2]at hBr;obtain⟨g,off,rfl,x1,x2⟩:=hAr.line;obtain⟨g',off',rfl,y1,y2⟩:=hBr.line;rw[← e3]at y1 y2;have hxi:=hA'.2 x hxm;have hyi:=hB'.2 y hym;obtain⟨xa,xc,ex⟩:=An.form hxi;obtain⟨ya,yc,ey⟩:=An.form hyi;unfold Dm at hxi hyi;rw[ex]at x2 hxi;rw[ey]at y2 hyi;have hxl:=(hS.out.2 x hxm).1;have HW:∀ p:Gr wr,Calls Tryz.prog 96 #[.slice xa x.ws.length xc,.slice ya y.ws.length yc] p.u fun e w'=>e=.returned (.bool (decide (x.ws=y.ws)))∧Below p.u.heap.size p.u w':=fun p=>Ae0 (hxi.below p.h) (hyi.below p.h) hxl
    have hke:=Vg x.key y.key;have hstep:=Aa (show (!eqB x.key y.key || !decide (x.ws=y.ws))=false→(xs=(D++[x])++T∧ys=(D'++[y])++T''∧(D++[x]).length=(D'++[y]).length∧(D++[x]).map LAt.plain=(D'++[y]).map LAt.plain) from fun h=>by
     simp only[Bool.or_eq_false_iff,Bool.not_eq_false']at h;refine⟨by rw[e1];simp,by rw[e2];simp,by simp[e3],?_⟩;rw[List.map_append,List.map_append,e4];congr 1;show [LAt.plain x]=[LAt.plain y]
     unfold LAt.plain;rw[Pm.1 h.1,of_decide_eq_true h.2])
    have hdiff:=Aa (show (!eqB x.key y.key || !decide (x.ws=y.ws))=true→false=eqB (xs.map LAt.plain) (ys.map LAt.plain) from fun h=>by
     rw[H0];intro e;rw[e1,e2,List.map_append,List.map_append]at e;have h2:=(List.append_inj e (by simp[e3])).2;rw[List.map_cons,List.map_cons]at h2;have h3:=(List.cons.inj h2).1;have k1:x.key=y.key:=congrArg PLine.key h3;have k2:x.ws=y.ws:=congrArg PLine.ws h3;rw[Fm k1]at h;simp[k2]at h)
    have hyes:((D.length:Int)<(n:Int)):=by omega
    have i1:(0:Int)≤(D.length:Int):=by omega
    have v1:=fun p:Gr wr=>Ap x1 p
    have v2:=fun p:Gr wr=>Ap x2 p
    have v3:=fun p:Gr wr=>Ap y1 p
    have v4:=fun p:Gr wr=>Ap y2 p
    clear hsp hA hB hS eN eL e1 e2 e3 e4 hA' hB' hAr hBr hxi hyi ex ey x1 x2 y1 y2 hxm hym;have hDS:(D++[x]).length=D.length+1:=by simp
    generalize decide (x.ws=y.ws)=WE at *;generalize eqB x.key y.key=KE at *;generalize x.key=xk at *;generalize y.key=yk at *;generalize x.ws.length=nx at *;generalize y.ws.length=ny at *;go_upto_region 6 with fail
    go_cut [41] from 17 to 41 (fun c wx=>c=.bool (!KE || !WE)∧Below wr.heap.size wr wx)
    case first =>
     clear hstep hdiff;cases KE
     ·have hkn:¬ xk.toList=yk.toList:=by simpa using hke
      have hk1:(xk.toList != yk.toList)=true:=hke;have hk2:(xk.toList == yk.toList)=false:=by simpa using hkn
      have hk3:decide (xk.toList=yk.toList)=false:=by simpa using hkn
      clear hke;refine Bf (by kernel_rfl) (by kernel_rfl) ?_;iterate 12 quiet_step (fail)
      iterate 12 (with_reducible refine Bt ?_ ?_;kernel_rfl;simp only[Act.put,List.setIfInBounds_toArray,List.set_cons_zero,List.set_cons_succ])
      quiet_step (fail)
      refine wpQuiet_nil ?_;rintro _ ⟨⟨wq,bq⟩,rfl⟩;go_wp2_with fail
      go_meet;exact⟨rfl,bq⟩
     ·have hkn:xk.toList=yk.toList:=by simpa using hke
      have hk1:(xk.toList != yk.toList)=false:=hke;clear hke;refine Bf (by kernel_rfl) (by kernel_rfl) ?_;iterate 22 quiet_step (fail)
      quiet_step ((go_at_call 96;refine Ff (HW _)))
      iterate 2 quiet_step (fail)
      refine wpQuiet_nil ?_;rintro _ ⟨⟨wq,bq⟩,rfl⟩;go_wp2_with fail
      go_meet;exact⟨rfl,bq⟩
    case rest =>
     obtain⟨wk,hwk⟩:∃ wk,wk=wc:=⟨_,rfl⟩;subst hwk;obtain⟨rfl,bk⟩:=hcut;have BK:=bw.trans (bk.mono bw.size);clear v1 v2 v3 v4 HW hke;cases hC:(!KE || !WE)
     ·have hs':Hid _:=hstep.out hC;clear hstep hdiff hC;go_wp2;go_roundw;case rel=>exact⟨D++[x],T,D'++[y],T'',by simp,by omega,hs',BK⟩
      case measure=>simp[intOf];omega
     ·have hr:=Aa (hdiff.out hC);clear hstep hdiff hC;go_wp2;go_ret;exact⟨congrArg (fun b=>Ending.returned (Value.bool b)) hr.out,BK⟩
 ·have hr:eqB (xs.map LAt.plain) (ys.map LAt.plain)=false:=H0 fun e=>hlen (by have:=congrArg List.length e;simpa using this)
  rw[hr];have hn0:((xs.length:Int) != (ys.length:Int))=true:=by simp;omega
  clear ha hb;generalize xs.length=n at *;generalize ys.length=m at *;go_enter Tryz.func31,Tryz.ntmps31;go_wp2;go_ret;exact⟨rfl,Below.refl _ _⟩
theorem X1{xs ys:List BAt}(ha:Aw w va xs)(hb:Aw w vb ys)(hs:A2 xs):Calls Tryz.prog 12 #[.agg #[va],.agg #[vb]] w fun e w'=>e=.returned (.bool (eqB (xs.map BAt.plain) (ys.map BAt.plain)))∧Below w.heap.size w w':=by
 obtain⟨ao,ca,rfl⟩:=ha.1.form;obtain⟨bo,cb,rfl⟩:=hb.1.form;have hc:=Di (w:=w) (cs:=#[.slice ao xs.length ca]) (ds:=#[.slice bo ys.length cb]) (T:=25) (U:=25);have c0:=hc.1 0;have d0:=hc.2 0;simp only[List.getElem?_toArray,List.getElem?_cons_zero]at c0 d0;clear hc;have G0:Below w.heap.size w ((w.alloc (.cells #[.slice ao xs.length ca] 25)).alloc (.cells #[.slice bo ys.length cb] 25)):=((Below.refl _ _).alloc (Nat.le_refl _) _).alloc (by simp) _;by_cases hlen:xs.length=ys.length
 ·have hA:=Aa (ha.below G0);have hB:=Aa (hb.below G0);have hS:=Aa hs;have hl:=hs.1;rw[← hlen]at d0 G0 c0 hA hB ⊢;generalize hN:xs.length=n at *;have eN:=Aa hN;have eL:=Aa hlen;clear ha hb hs hN hlen;have hn0:((n:Int) != (n:Int))=false:=by simp
  generalize hW0:(w.alloc (.cells #[.slice ao n ca] 25)).alloc (.cells #[.slice bo n cb] 25)=W0 at *;go_enter Tryz.func12,Tryz.ntmps12;go_wp2;go_loopw [5] (fun i wr=>∃(D T D' T':List BAt),i=.int .i64 (D.length:Int)∧D.length≤n∧Hid (xs=D++T∧ys=D'++T'∧D.length=D'.length∧D.map BAt.plain=D'.map BAt.plain)∧Below W0.heap.size W0 wr) (fun i _=>n - (intOf i).toNat)
  case atStart =>
   try rw[hW0]
   exact⟨[],xs,[],ys,rfl,by simp,(⟨rfl,rfl,rfl,rfl⟩:xs=[]++xs∧ys=[]++ys∧_),Below.refl _ _⟩
  case round =>
   obtain⟨D,T,D',T',rfl,hDl,hsp,bw⟩:=hrel;have G1:=G0.trans (bw.mono G0.size);have c1:=(bw.cell (World.block_lt_of_cell? W0 _ c0)).trans c0;have d1:=(bw.cell (World.block_lt_of_cell? W0 _ d0)).trans d0;clear hW0;cases T with
   | nil =>
    have hDn:D.length=n:=by rw[← eN.out,hsp.out.1];simp
    have hno:¬ ((D.length:Int)<(n:Int)):=by omega
    have hr:=Aa (show true=eqB (xs.map BAt.plain) (ys.map BAt.plain) from by
     obtain⟨e1,e2,e3,e4⟩:=hsp.out;have:T'=[]:=by
      have h1:=eL.out;have h2:=congrArg List.length e2;rw[List.length_append]at h2;exact List.length_eq_zero_iff.1 (by omega)
     subst this;rw[List.append_nil]at e1 e2;rw[e1,e2,Fm e4])
    clear hsp hA hB hS eN eL c0 d0;go_wp2;go_ret;exact⟨congrArg (fun b=>Ending.returned (Value.bool b)) hr.out,G1⟩
   | cons x T =>
    obtain⟨e1,e2,e3,e4⟩:=hsp.out;have hDn:D.length<n:=by have h1:=eN.out;rw[e1]at h1;simp at h1;omega
    obtain⟨y,T'',rfl⟩:∃ y T'',T'=y::T'':=by
     cases T' with
     | nil =>
      exfalso;have h1:=eL.out;have h2:=congrArg List.length e2;simp at h2;omega
     | cons y t=>exact⟨y,t,rfl⟩
    have hxm:x∈xs:=by rw[e1];simp
    have hym:y∈ys:=by rw[e2];simp
    have hA':=hA.out.below bw;have hB':=hB.out.below bw;have hAr:=hA'.1;have hBr:=hB'.1;rw[e1]at hAr;rw[e2]at hBr;obtain⟨g,off,rfl,x1,x2,x3⟩:=hAr.block;obtain⟨g',off',rfl,y1,y2,y3⟩:=hBr.block;rw[← e3]at y1 y2 y3;have hxi:=hA'.2 x hxm;have hyi:=hB'.2 y hym;obtain⟨xa,xc,ex⟩:=hxi.1.form;obtain⟨ya,yc,ey⟩:=hyi.1.form;unfold Cb at hxi hyi;rw[ex]at x3 hxi;rw[ey]at y3 hyi;have hxl:=(hS.out.2 x hxm).2;have HW:∀ p:Gr wr,Calls Tryz.prog 31 #[.slice xa x.ls.length xc,.slice ya y.ls.length yc] p.u fun e w'=>e=.returned (.bool (eqB (x.ls.map LAt.plain) (y.ls.map LAt.plain)))∧Below p.u.heap.size p.u w':=fun p=>X0 (hxi.below p.h) (hyi.below p.h) hxl
    have hke:=Vg x.kind y.kind;have hne:=Vg x.name y.name;have hstep:=Aa (show (!eqB x.kind y.kind || !eqB x.name y.name || !eqB (x.ls.map LAt.plain) (y.ls.map LAt.plain))=false→(xs=(D++[x])++T∧ys=(D'++[y])++T''∧(D++[x]).length=(D'++[y]).length∧(D++[x]).map BAt.plain=(D'++[y]).map BAt.plain) from fun h=>by
     simp only[Bool.or_eq_false_iff,Bool.not_eq_false']at h;refine⟨by rw[e1];simp,by rw[e2];simp,by simp[e3],?_⟩;rw[List.map_append,List.map_append,e4];congr 1;show [BAt.plain x]=[BAt.plain y]
     unfold BAt.plain;rw[Pm.1 h.1.1,Pm.1 h.1.2,Pm.1 h.2])
    have hdiff:=Aa (show (!eqB x.kind y.kind || !eqB x.name y.name || !eqB (x.ls.map LAt.plain) (y.ls.map LAt.plain))=true→false=eqB (xs.map BAt.plain) (ys.map BAt.plain) from fun h=>by
     rw[H0];intro e;rw[e1,e2,List.map_append,List.map_append]at e;have h2:=(List.append_inj e (by simp[e3])).2;rw[List.map_cons,List.map_cons]at h2;have h3:=(List.cons.inj h2).1;have k1:x.kind=y.kind:=congrArg PBlock.kind h3;have k2:x.name=y.name:=congrArg PBlock.name h3;have k3:x.ls.map LAt.plain=y.ls.map LAt.plain:=congrArg PBlock.lines h3;rw[Fm k1,Fm k2,Fm k3]at h;cases h)
    have hyes:((D.length:Int)<(n:Int)):=by omega
    have i1:(0:Int)≤(D.length:Int):=by omega
    have u1:=fun p:Gr wr=>Ap c1 p
    have u2:=fun p:Gr wr=>Ap d1 p
    have v1:=fun p:Gr wr=>Ap x1 p
    have v2:=fun p:Gr wr=>Ap x2 p
    have v3:=fun p:Gr wr=>Ap x3 p
    have v4:=fun p:Gr wr=>Ap y1 p
    have v5:=fun p:Gr wr=>Ap y2 p
    have v6:=fun p:Gr wr=>Ap y3 p
    clear hsp hA hB hS eN eL e1 e2 e3 e4 hA' hB' hAr hBr hxi hyi ex ey x1 x2 x3 y1 y2 y3 hxm hym c0 d0;have hDS:(D++[x]).length=D.length+1:=by simp
    generalize eqB (x.ls.map LAt.plain) (y.ls.map LAt.plain)=WE at *;generalize eqB x.kind y.kind=KE at *;generalize eqB x.name y.name=NE at *;generalize x.kind=xk at *;generalize y.kind=yk at *;generalize x.name=xn at *;generalize y.name=yn at *;generalize x.ls.length=nx at *;generalize y.ls.length=ny at *;go_upto_region 6 with fail
    go_cut [63] from 20 to 63 (fun c wx=>c=.bool (!KE || !NE || !WE)∧Below wr.heap.size wr wx)
    case first =>
     clear hstep hdiff c1 d1;cases KE
     ·have hkn:¬ xk.toList=yk.toList:=by simpa using hke
      have hk1:(xk.toList != yk.toList)=true:=hke;have hk2:(xk.toList == yk.toList)=false:=by simpa using hkn
      have hk3:decide (xk.toList=yk.toList)=false:=by simpa using hkn
      clear hke hne;refine Bf (by kernel_rfl) (by kernel_rfl) ?_;iterate 14 quiet_step (fail)
      iterate 13 (with_reducible refine Bt ?_ ?_;kernel_rfl;simp only[Act.put,List.setIfInBounds_toArray,List.set_cons_zero,List.set_cons_succ])
      iterate 2 quiet_step (fail)
      iterate 14 (with_reducible refine Bt ?_ ?_;kernel_rfl;simp only[Act.put,List.setIfInBounds_toArray,List.set_cons_zero,List.set_cons_succ])
      quiet_step (fail)
      refine wpQuiet_nil ?_;rintro _ ⟨⟨wq,bq⟩,rfl⟩;go_wp2_with fail
      go_meet;exact⟨rfl,bq⟩
     ·have hkn:xk.toList=yk.toList:=by simpa using hke
      have hk1:(xk.toList != yk.toList)=false:=hke;clear hke;cases NE
      ·have hnn:¬ xn.toList=yn.toList:=by simpa using hne
       have hn1:(xn.toList != yn.toList)=true:=hne;have hn2:(xn.toList == yn.toList)=false:=by simpa using hnn
       have hn3:decide (xn.toList=yn.toList)=false:=by simpa using hnn
       clear hne;refine Bf (by kernel_rfl) (by kernel_rfl) ?_;iterate 29 quiet_step (fail)
       iterate 14 (with_reducible refine Bt ?_ ?_;kernel_rfl;simp only[Act.put,List.setIfInBounds_toArray,List.set_cons_zero,List.set_cons_succ])
       quiet_step (fail)
       refine wpQuiet_nil ?_;rintro _ ⟨⟨wq,bq⟩,rfl⟩;go_wp2_with fail
       go_meet;exact⟨rfl,bq⟩
      ·have hnn:xn.toList=yn.toList:=by simpa using hne
       have hn1:(xn.toList != yn.toList)=false:=hne;clear hne;refine Bf (by kernel_rfl) (by kernel_rfl) ?_;iterate 41 quiet_step (fail)
       quiet_step ((go_at_call 31;refine Ff (HW _)))
       iterate 2 quiet_step (fail)
       refine wpQuiet_nil ?_;rintro _ ⟨⟨wq,bq⟩,rfl⟩;go_wp2_with fail
       go_meet;exact⟨rfl,bq⟩
    case rest =>
     obtain⟨wk,hwk⟩:∃ wk,wk=wc:=⟨_,rfl⟩;subst hwk;obtain⟨rfl,bk⟩:=hcut;have BK:=bw.trans (bk.mono bw.size);have GK:=G0.trans (BK.mono G0.size);clear v1 v2 v3 v4 v5 v6 u1 u2 HW hke hne;cases hC:(!KE || !NE || !WE)
     ·have hs':Hid _:=hstep.out hC;clear hstep hdiff hC;go_wp2;go_roundw;case rel=>exact⟨D++[x],T,D'++[y],T'',by simp,by omega,hs',BK⟩
      case measure=>simp[intOf];omega
     ·have hr:=Aa (hdiff.out hC);clear hstep hdiff hC;go_wp2;go_ret;exact⟨congrArg (fun b=>Ending.returned (Value.bool b)) hr.out,GK⟩
 ·have hr:eqB (xs.map BAt.plain) (ys.map BAt.plain)=false:=H0 fun e=>hlen (by have:=congrArg List.length e;simpa using this)
  rw[hr];have hn0:((xs.length:Int) != (ys.length:Int))=true:=by simp;omega
  clear ha hb hr;generalize xs.length=n at *;generalize ys.length=m at *;go_enter Tryz.func12,Tryz.ntmps12;go_wp2;go_ret;exact⟨rfl,G0⟩
end Go.Proofs.YtpdahhnjhggocaaGreatDoor
