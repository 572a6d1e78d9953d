import Derived.Test.YtpdahhnjhggocaaGreatDoorMz26
import Derived.Test.YtpdahhnjhggocaaGreatDoorMz48
import Derived.Test.YtpdahhnjhggocaaGreatDoorMz49
namespace Go.Proofs.YtpdahhnjhggocaaGreatDoor
open Go.RowKit
set_option maxHeartbeats 16000000
set_option maxRecDepth 100000
variable {TA A:List PBlock}{v v1 v2 lv:Value}{W W' w':World}{n c:Nat}{az bs:List BAt}
theorem Q7:∀(cs:List PChange) (i:Nat) (A:List PBlock),Ax A→Ax (Ea i A cs).1
 | [],i,A,h=>h
 | c::cs,i,A,h=>by
  unfold Ea;cases e:oneS A c with
  | none=>exact Wp
  | some A'=>exact Q7 cs (i+1) A' (Tb h e)
theorem Sz(A:List PBlock)(cs:List PChange):Ax (applyS A cs).1:=by
 unfold applyS;split
 ·rename_i h;exact Q7 cs 0 A (Bh.1 h)
 ·exact Wp
def ChI(P:List PChange)(TA:List PBlock)(v:Value)(W:World):Prop:=∃ cs,cs.map A6.plain=P∧Dj W v cs∧ApS TA cs
theorem ChI.below{P:List PChange}(h:ChI P TA v W)(hb:Below W.heap.size W W'):ChI P TA v W':=by
 obtain⟨cs,h1,h2,h3⟩:=h;exact⟨cs,h1,h2.below hb,h3⟩
theorem ChI.len{P:List PChange}{a:Option Addr}(h:ChI P TA (.slice a n c) W):n=P.length:=by
 obtain⟨cs,rfl,h2,_⟩:=h;obtain⟨a',c',e⟩:=h2.1.form;cases e
 simp
def Afk(P:List PChange)(TA:List PBlock)(W:World)(e:Ending)(w':World):Prop:=∃ a n c,e=.returned (.slice a n c)∧ChI P TA (.slice a n c) w'∧Below W.heap.size W w'
theorem Yj{e:Ending}(sa:A2 az)(sb:A2 bs)(h:Gi (diffS (az.map BAt.plain) (bs.map BAt.plain)) W e w'):Afk (diffS (az.map BAt.plain) (bs.map BAt.plain)) (az.map BAt.plain) W e w':=by
 obtain⟨v,cs,rfl,hp,hs,_,ho,hb⟩:=h;obtain⟨a,c,rfl⟩:=ho.cin.1.form;exact⟨a,_,c,rfl,⟨cs,hp,ho.cin,(Ahb hp hs sa sb).1⟩,hb⟩
theorem Q8{B:List PBlock}(hst:Dx W)(h1:Nw A v1 W)(h2:Nw B v2 W):Calls Tryz.prog 18 #[.agg #[v1],.agg #[v2]] W fun e w'=>Afk (diffS A B) A W e w':=by
 obtain⟨az,rfl,i1,s1⟩:=h1;obtain⟨bs,rfl,i2,s2⟩:=h2;exact(Vx i1 i2 s1 s2 hst).mono fun e w' h=>Yj s1 s2 h
theorem Aao{B:List PBlock}(h1:Nw A v1 W)(h2:Nw B v2 W):Calls Tryz.prog 36 #[.agg #[v1],.agg #[v2]] W fun e w'=>Afk (diffS A B) A W e w':=by
 obtain⟨az,rfl,i1,s1⟩:=h1;obtain⟨bs,rfl,i2,s2⟩:=h2;exact(Mj i1 i2 s1 s2).mono fun e w' h=>Yj s1 s2 h
theorem Aap{P:List PChange}{B:List PBlock}(h1:ChI P A v1 W)(h2:ChI P B v2 W):Calls Tryz.prog 35 #[v1,v2] W fun e w'=>e=.returned (.bool true)∧Below W.heap.size W w':=by
 obtain⟨xs,rfl,i1,s1⟩:=h1;obtain⟨ys,hp,i2,_⟩:=h2;exact X7 i1 i2 hp.symm ⟨s1.1,fun c hc=>(s1.2.1 c hc).2⟩
def Afl(G:List PBlock × Int)(W:World)(e:Ending)(w':World):Prop:=∃ a n c,e=.returned (.tuple #[.agg #[.slice a n c],.int .i64 G.2])∧Nw G.1 (.slice a n c) w'∧Below W.heap.size W w'
theorem Afm{P:List PChange}{e:Ending}(h:Nu (applyS A P) W e w'):Afl (applyS A P) W e w':=by
 obtain⟨v,bs,rfl,hp,ho,hb⟩:=h;obtain⟨a,c,rfl⟩:=ho.bin.1.form;exact⟨a,_,c,rfl,⟨bs,hp,ho.bin,E3 (by rw[hp];exact Sz A P)⟩,hb⟩
theorem bud{cs:List A6}(h:ApS (az.map BAt.plain) cs):∀ b∈az,b.ls.length+Ra (cs.map A6.plain)≤1048576:=fun b hb=>by
 have:=h.2.2.2 b.plain (List.mem_map_of_mem hb);simpa [BAt.plain] using this
theorem Oi{P:List PChange}(hst:Dx W)(h1:Nw A v W)(h2:ChI P A lv W):Calls Tryz.prog 17 #[.agg #[v],lv] W fun e w'=>Afl (applyS A P) W e w':=by
 obtain⟨az,rfl,i1,s1⟩:=h1;obtain⟨cs,rfl,i2,s2⟩:=h2;exact(Rr i1 s1 hst i2 s2.1 s2.2.1 s2.2.2.1 (bud s2)).mono fun e w' h=>Afm h
theorem Yk{P:List PChange}(h1:Nw A v W)(h2:ChI P A lv W):Calls Tryz.prog 38 #[.agg #[v],lv] W fun e w'=>Afl (applyS A P) W e w':=by
 obtain⟨az,rfl,i1,s1⟩:=h1;obtain⟨cs,rfl,i2,s2⟩:=h2;exact(Rs i1 s1 i2 s2.1 s2.2.1 s2.2.2.1 (bud s2)).mono fun e w' h=>Afm h
theorem Afn{T U:List PBlock}(h1:Nw T v1 W)(h2:Nw U v2 W){E:Bool}(e:eqB T U=E):Calls Tryz.prog 12 #[.agg #[v1],.agg #[v2]] W fun e w'=>e=.returned (.bool E)∧Below W.heap.size W w':=by
 obtain⟨az,rfl,i1,s1⟩:=h1;obtain⟨bs,rfl,i2,s2⟩:=h2;rw[← e];exact X1 i1 i2 s1
theorem Yl{T:List PBlock}(hst:Dx W)(h:Nw T v W):Calls Tryz.prog 19 #[.agg #[v]] W fun e w'=>e=.returned (.bool (Ca T))∧Below W.heap.size W w':=by
 obtain⟨bs,rfl,i,s⟩:=h;exact Ha i s hst
variable {w:World}{B:Nat}{av bv:Value}
structure FdS(w:World)(TA TB:List PBlock)(A B:Nat)(av bv:Value)(W:World):Prop where
 bw:Below w.heap.size w W
 ca:W.cell? ⟨A,0,none⟩=some av
 cb:W.cell? ⟨B,0,none⟩=some bv
 ia:Nw TA av W
 ib:Nw TB bv W
 st:Dx W
theorem FdS.below{TB:List PBlock}{A:Nat}(h:FdS w TA TB A B av bv W)(hb:Below W.heap.size W W'):FdS w TA TB A B av bv W' :=
 ⟨h.bw.trans (hb.mono h.bw.size),(hb.cell (World.block_lt_of_cell? _ _ h.ca)).trans h.ca,(hb.cell (World.block_lt_of_cell? _ _ h.cb)).trans h.cb,h.ia.below hb,h.ib.below hb,h.st.below hb⟩
theorem Agz(w:World)(x:Value):Below w.heap.size w (w.alloc (.cells #[x] 25))∧(w.alloc (.cells #[x] 25)).cell? ⟨w.heap.size,0,none⟩=some x:=by
 have y0:=Ab (Al w (.cells #[x] 25)) 0;simp only[List.getElem?_toArray,List.getElem?_cons_zero]at y0;exact⟨(Below.refl w.heap.size w).alloc (Nat.le_refl _) (.cells #[x] 25),y0⟩
theorem Aaq(a:Option Addr)(len cap:Nat)(w:World)(hc:len≤1048576→Code w.heap.size w a len cap)(hlen:len≤9223372036854775807)(hst:Dx w):Calls Tryz.prog 8 #[.slice a len cap] w fun e w'=>e=.returned (.bool true)∧Below w.heap.size w w':=by
 by_cases hs:len≤1048576
 ·have hs':¬ (1048576:Int)<(len:Int):=by omega
  have HD:=V0 a len cap w (hc hs);have HC:=Aa (hc hs);clear hc;go_enter Tryz.func8,Tryz.ntmps8;go_wp2_with (go_at_call 34;refine HD.mono ?_)
  rintro e w1 ⟨sa,sn,sc,sb,sm,sd,TA,TB,rfl,⟨hia,hib⟩,b1⟩;obtain⟨x1,cA,cB⟩:=Z7 w1 (.slice sa sn sc) (.slice sb sm sd);have g1:=b1.trans (x1.mono b1.size);have FS:FdS w TA TB w1.heap.size (w1.heap.size+1) (.slice sa sn sc) (.slice sb sm sd) ((w1.alloc (.cells #[.slice sa sn sc] 25)).alloc (.cells #[.slice sb sm sd] 25)):=⟨g1,cA,cB,hia.below x1,hib.below x1,hst.below g1⟩;have HI:=Q8 FS.st FS.ia FS.ib;have F1:=Aa FS;clear HD FS hia hib x1 g1 b1 hst;generalize hA:w1.heap.size=A at *;generalize hW1:(w1.alloc (.cells #[.slice sa sn sc] 25)).alloc (.cells #[.slice sb sm sd] 25)=W1 at *;go_wp2_with (go_at_call 18;(try rw[hW1]);refine HI.mono ?_)
  rintro e w2 ⟨la,ln,lc,rfl,IL,b2⟩;have F2:=Aa (F1.out.below b2);have IL2:=Aa IL;have HI2:=Aao F2.out.ia F2.out.ib;have cA:=F2.out.ca;have cB:=F2.out.cb;clear F1 HI IL b2 hA hW1;go_wp2_with (go_at_call 36;refine HI2.mono ?_)
  rintro e w3 ⟨ra,rn,rc,rfl,IR,b3⟩;have HW:=Aap (IL2.out.below b3) IR;have F3:=Aa (F2.out.below b3);have IL3:=Aa (IL2.out.below b3);clear HI2 F2 IL2 IR b3 cA cB;go_wp2_with (go_at_call 35;refine HW.mono ?_)
  first | rintro e w4 rfl b4 | rintro e w4 ⟨rfl,b4⟩
  have F4:=Aa (F3.out.below b4);have IL4:=Aa (IL3.out.below b4);have HP:=Oi F4.out.st F4.out.ia IL4.out;have cA:=F4.out.ca;clear HW F3 IL3 b4;go_wp2_with (go_at_call 17;refine HP.mono ?_)
  rintro e w5 ⟨xa,xn,xc,rfl,IX,b5⟩;obtain⟨x5,cX⟩:=Agz w5 (.slice xa xn xc);have F5:=Aa ((F4.out.below b5).below x5);have IL5:=Aa ((IL4.out.below b5).below x5);have IX5:=Aa (IX.below x5);have HV:=Oe F5.out.ia;clear HP F4 IL4 IX b5 x5 cA;generalize hW5:w5.alloc (.cells #[.slice xa xn xc] 25)=W5 at *;generalize hcI:(applyS TA (diffS TA TB)).2=cI at *;have ECI:=Aa hcI;clear hcI;have cA:=F5.out.ca;go_upto_region 8 with fail
  try rw[hW5]
  clear hW5;go_cut [42] from 37 to 42 (fun c wx=>c=.bool (Ca TA && Ca TB)∧Below W5.heap.size W5 wx)
  case first =>
   cases hvA:Ca TA
   ·rw[hvA]at HV;clear F5 IL5 IX5 ECI HC;go_wp2_with (go_at_call 14;refine HV.mono ?_)
    first | rintro e w6 rfl b6 | rintro e w6 ⟨rfl,b6⟩
    go_wp2_with fail
    go_meet;exact⟨by rw[hvA];rfl,b6⟩
   ·rw[hvA]at HV;clear IL5 IX5 ECI HC;go_wp2_with (go_at_call 14;refine HV.mono ?_)
    first | rintro e w6 rfl b6 | rintro e w6 ⟨rfl,b6⟩
    have F6:=F5.out.below b6;have HV2:=Oe F6.ib;have cB:=F6.cb;clear HV F6 F5;go_wp2_with (go_at_call 14;refine HV2.mono ?_)
    first | rintro e w7 rfl b7 | rintro e w7 ⟨rfl,b7⟩
    have BB:=b6.trans (b7.mono b6.size);clear HV2 b6 b7 cB;go_wp2_with fail
    go_meet;exact⟨by rw[hvA,Bool.true_and],BB⟩
  case rest =>
   obtain⟨wk,hwk⟩:∃ wk,wk=wc:=⟨_,rfl⟩;subst hwk;obtain⟨rfl,bk⟩:=hcut;have F8:=Aa (F5.out.below bk);have IL8:=Aa (IL5.out.below bk);have IX8:=Aa (IX5.out.below bk);have cX8:=(bk.cell (World.block_lt_of_cell? _ _ cX)).trans cX;clear HV F5 IL5 IX5 bk cX cA;cases hv:(Ca TA && Ca TB)
   case' true =>
    rw[Bool.and_eq_true]at hv;have oA:=Bh.1 hv.1;have oB:=Bh.1 hv.2;have hap:=Z9 oA oB;have IX9:=IX8.out;rw[hap]at IX9;obtain rfl:cI=0:=by rw[← ECI.out,hap]
    have HSF:=Sw oA;have hE:((ln:Int) == 0)=eqB TA TB:=by
     have hl:=IL8.out.len;by_cases e:TA=TB
     ·rw[Fm e,hl,(X6 oA oB).2 e];rfl
     ·rw[H0 e,beq_eq_false_iff_ne];intro h0;refine e ((X6 oA oB).1 (List.length_eq_zero_iff.1 ?_));omega
    have HW:=X2 IX9 F8.out.ib rfl;have cB:=F8.out.cb;have HEH:=Aa hE;have HSFH:=Aa HSF;clear ECI IX8 IX9 oA oB hap hE HSF hv;go_wp2_with (go_at_call 12;refine HW.mono ?_)
    first | rintro e w9 rfl b9 | rintro e w9 ⟨rfl,b9⟩
    have F9:=Aa (F8.out.below b9);have IL9:=Aa (IL8.out.below b9);have HI:=Q8 F9.out.st F9.out.ia F9.out.ia;rw[HSFH.out]at HI;have cA:=F9.out.ca;clear HW F8 IL8 b9 cX8 cB HSFH;go_wp2_with (go_at_call 18;refine HI.mono ?_)
    rintro e w10 ⟨qa,qn,qc,rfl,IQ,b10⟩;obtain rfl:qn=0:=IQ.len;have F10:=Aa (F9.out.below b10);have IL10:=Aa (IL9.out.below b10);have HW:=Afn F10.out.ia F10.out.ib rfl;have cA:=F10.out.ca;have cB:=F10.out.cb;have hE:=HEH.out;clear HI F9 IL9 IQ b10 HEH;generalize eqB TA TB=E at *;have hEE:(E != E)=false:=by simp
    go_wp2_with (go_at_call 12;refine HW.mono ?_)
    first | rintro e w11 rfl b11 | rintro e w11 ⟨rfl,b11⟩
    have BW:=Aa (F10.out.below b11).bw;have ST:=Aa (F10.out.below b11).st;clear HW F10 IL10 b11 cA cB;obtain⟨u,hu⟩:∃ u,u=w11:=⟨_,rfl⟩;subst hu;go_upto_region 11 with fail
   case' false =>
    have BW:=Aa F8.out.bw;have ST:=Aa F8.out.st;clear F8 IL8 IX8 cX8 ECI hv;obtain⟨u,hu⟩:∃ u,u=wk:=⟨_,rfl⟩;subst hu;go_upto_region 11 with fail
   all_goals
    have HD:=Rt a len cap u (HC.out.below BW.out BW.out.size);go_wp2_with (go_at_call 37;refine HD.mono ?_)
    rintro e v1 ⟨ta,tn,tc,lv,TS,cs,rfl,⟨IS,hci,haps⟩,d1⟩;obtain⟨ma,mc,rfl⟩:=hci.1.form;obtain⟨y1,cS⟩:=Agz v1 (.slice ta tn tc);have IS1:=Aa (IS.below y1);have IC1:=Aa (ChI.below ⟨cs,rfl,hci,haps⟩ y1);have BV:=BW.out.trans ((d1.trans (y1.mono d1.size)).mono BW.out.size);have BW1:=Aa BV;have ST1:=Aa (ST.out.below (d1.trans (y1.mono d1.size)));have HP:=Oi ST1.out IS1.out IC1.out;clear HD IS hci haps y1 d1 BV BW ST HC;generalize cs.map A6.plain=P at *;generalize cs.length=mn at *;generalize hV1:v1.alloc (.cells #[.slice ta tn tc] 25)=V1 at *;go_wp2_with (go_at_call 17;(try rw[hV1]);refine HP.mono ?_)
    rintro e v2 ⟨ya,yn,yc,rfl,IY,d2⟩;obtain⟨y2,cY⟩:=Agz v2 (.slice ya yn yc);have D2:=d2.trans (y2.mono d2.size);have IS2:=Aa (IS1.out.below D2);have IC2:=Aa (IC1.out.below D2);have IY2:=Aa (IY.below y2);have BW2:=Aa (BW1.out.trans (D2.mono BW1.out.size));have ST2:=Aa (ST1.out.below D2);have cS2:=(D2.cell (World.block_lt_of_cell? _ _ cS)).trans cS;have HP2:=Yk IS2.out IC2.out;clear HP IS1 IC1 IY BW1 ST1 cS d2 y2 D2 hV1;generalize hV2:v2.alloc (.cells #[.slice ya yn yc] 25)=V2 at *;go_wp2_with (go_at_call 38;(try rw[hV2]);refine HP2.mono ?_)
    rintro e v3 ⟨za,zn,zc,rfl,IZ,d3⟩;obtain⟨y3,cZ⟩:=Agz v3 (.slice za zn zc);have D3:=d3.trans (y3.mono d3.size);have IY3:=Aa (IY2.out.below D3);have IZ3:=Aa (IZ.below y3);have BW3:=Aa (BW2.out.trans (D3.mono BW2.out.size));have ST3:=Aa (ST2.out.below D3);have cY3:=(D3.cell (World.block_lt_of_cell? _ _ cY)).trans cY;have HW:=X2 IY3.out IZ3.out rfl;have hOK:=Aa (Sz TS P);clear HP2 IS2 IC2 IY2 IZ BW2 ST2 cS2 cY d3 y3 D3 hV2;generalize applyS TS P=G at *;obtain⟨G1,dI⟩:=G;have hdd:(dI == dI)=true:=by simp
    generalize hV3:v3.alloc (.cells #[.slice za zn zc] 25)=V3 at *;go_wp2_with (go_at_call 12;(try rw[hV3]);refine HW.mono ?_)
    first | rintro e v4 rfl d4 | rintro e v4 ⟨rfl,d4⟩
    have BW4:=Aa (BW3.out.trans (d4.mono BW3.out.size));have HV:=Yl (ST3.out.below d4) (IY3.out.below d4);have cY4:=(d4.cell (World.block_lt_of_cell? _ _ cY3)).trans cY3;rw[Bh.2 hOK.out]at HV;clear HW IY3 IZ3 BW3 ST3 cY3 cZ d4 hV3 hOK;by_cases hd:dI=0
    ·subst hd;go_wp2_with (go_at_call 19;refine HV.mono ?_)
     first | rintro e v5 rfl d5 | rintro e v5 ⟨rfl,d5⟩
     have BW5:=BW4.out.trans (d5.mono BW4.out.size);clear HV d5;go_wp2;go_ret;exact⟨rfl,BW5⟩
    ·have hd1:(dI != 0)=true:=by simpa using hd
     clear HV;go_wp2;go_ret;exact⟨rfl,BW4.out⟩
 ·have hs':(1048576:Int)<(len:Int):=by omega
  clear hc;go_enter Tryz.func8,Tryz.ntmps8;go_wp2;go_ret;exact⟨rfl,Below.refl _ _⟩
end Go.Proofs.YtpdahhnjhggocaaGreatDoor
