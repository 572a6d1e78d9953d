import Derived.Test.YtpdahhnjhggocaaGreatDoorMz30
namespace Go.Proofs.YtpdahhnjhggocaaGreatDoor
open Go.RowKit
set_option maxHeartbeats 16000000
set_option maxRecDepth 100000
variable {w W W' W1:World}{O X n c:Nat}{ls ls':List LAt}{v v':Value}{α β:Type}{kind name:ByteArray}
structure L6S(w:World)(U O X:Nat)(u o:BAt)(ls:List LAt)(v:Value)(W:World):Prop where
 bw:Below w.heap.size w W
 ub:W.heap[U]?=some (.cells #[.string u.kind,.string u.name,u.v] 46 (0,0))
 ob:W.heap[O]?=some (.cells #[.string o.kind,.string o.name,o.v] 46 (0,0))
 xb:W.heap[X]?=some (.cells #[.string o.kind,.string o.name,v] 46 (0,0))
 rb:W.heap[w.heap.size+2]?=some (.cells #[.string ⟨#[]⟩,.string ⟨#[]⟩,.slice none 0 0] 46 (0,0))
 uin:Cb W u
 oin:Cb W o
 lin:Ah W v ls
 mem:∀ y∈ls,y∈o.ls∨y∈u.ls
 far:∀ q,q≤X→Aj q u.v u.ls→Aj q o.v o.ls→Aj q v ls
 ufar:∀ q,w.heap.size≤q→Aj q u.v u.ls
 ofar:∀ q,w.heap.size≤q→Aj q o.v o.ls
theorem L6S.below{U:Nat}{u o:BAt}(h:L6S w U O X u o ls v W)(hb:Below W.heap.size W W'):L6S w U O X u o ls v W' :=
 ⟨h.bw.trans (hb.mono h.bw.size),(hb.block U (Array.getElem?_eq_some_iff.1 h.ub).1).trans h.ub,(hb.block O (Array.getElem?_eq_some_iff.1 h.ob).1).trans h.ob,(hb.block X (Array.getElem?_eq_some_iff.1 h.xb).1).trans h.xb,(hb.block _ (Array.getElem?_eq_some_iff.1 h.rb).1).trans h.rb,h.uin.below hb,h.oin.below hb,h.lin.below hb,h.mem,h.far,h.ufar,h.ofar⟩
theorem L6S.put{U:Nat}{u o:BAt}{x:LAt}{W2:World}(h:L6S w U O X u o ls v W)(hU:U=w.heap.size)(hO:O=w.heap.size+1)(hX:X=w.heap.size+3)(hb1:Below W.heap.size W W1)(hb2:Below W1.heap.size W1 W2)(hl:Ah W2 v' ls')(hm:∀ y∈ls',y=x∨y∈ls)(hx:x∈o.ls∨x∈u.ls)(hf:∀ q,q<W1.heap.size→Aj q v ls→Cr q x.v x.ws.length→Aj q v' ls'):
  L6S w U O X u o ls' v' (((W2.setCell ⟨X,0,none⟩ (.string o.kind)).setCell ⟨X,1,none⟩ (.string o.name)).setCell ⟨X,2,none⟩ v'):=by
 have h1:=h.below hb1;have h2:=h1.below hb2;obtain⟨z,gz⟩:=Xa (k':=o.kind) (n':=o.name) (v':=v') h2.xb;have hXl:X<W1.heap.size:=(Array.getElem?_eq_some_iff.1 h1.xb).1;have hbz:=h2.bw.size;have hfx:∀ q,Aj q u.v u.ls→Aj q o.v o.ls→Cr q x.v x.ws.length:=fun q hu ho=>by
  rcases hx with hx | hx
  ·exact ho.2 x hx
  ·exact hu.2 x hx
 have hfar:∀ q,q≤X→Aj q u.v u.ls→Aj q o.v o.ls→Aj q v' ls':=fun q hq hu ho=>hf q (by omega) (h.far q hq hu ho) (hfx q hu ho)
 refine⟨Bu h2.bw h2.bw.size (by omega) gz,(gz.block U (Array.getElem?_eq_some_iff.1 h2.ub).1 (by intro e;have:=Option.some.inj e;omega)).trans h2.ub,(gz.block O (Array.getElem?_eq_some_iff.1 h2.ob).1 (by intro e;have:=Option.some.inj e;omega)).trans h2.ob,z,(gz.block _ (Array.getElem?_eq_some_iff.1 h2.rb).1 (by intro e;have:=Option.some.inj e;omega)).trans h2.rb,Ah.far h2.uin (h.ufar X (by omega)) gz,Ah.far h2.oin (h.ofar X (by omega)) gz,hl.far (hfar X (Nat.le_refl _) (h.ufar X (by omega)) (h.ofar X (by omega))) gz,fun y hy=>?_,hfar,h.ufar,h.ofar⟩;rcases hm y hy with rfl | hy
 ·exact hx
 ·exact h.mem y hy
def Aec(u o:BAt)(w:World)(e:Ending)(w':World):Prop:=∃ a n c ls,e=.returned (.agg #[.string o.kind,.string o.name,.slice a n c])∧(ls.map LAt.plain=Wn (rulesOf o.kind) (u.ls.map LAt.plain) (o.ls.map LAt.plain)∧(∀ y∈ls,y∈o.ls∨y∈u.ls)∧Ah w' (.slice a n c) ls∧∀ q,q<w.heap.size→Aj q u.v u.ls→Aj q o.v o.ls→Aj q (.slice a n c) ls)∧Below w.heap.size w w'
def Aie(w:World)(u o:BAt)(i:Value)(W:World):Prop:=∃(j:Nat) (v:Value) (ls:List LAt),i=.int .i64 (j:Int)∧j≤o.ls.length∧ls.length=j∧ls.map LAt.plain=Da (rulesOf o.kind) ((o.ls.map LAt.plain).take j)∧L6S w w.heap.size (w.heap.size+1) (w.heap.size+3) u o ls v W
def Aif(w:World)(u o:BAt)(i:Value)(W:World):Prop:=∃(j:Nat) (v:Value) (ls:List LAt),i=.int .i64 (j:Int)∧j≤u.ls.length∧ls.length≤o.ls.length+j∧ls.map LAt.plain=Da (rulesOf o.kind) (o.ls.map LAt.plain++Kj ((u.ls.map LAt.plain).take j) (o.ls.map LAt.plain))∧L6S w w.heap.size (w.heap.size+1) (w.heap.size+3) u o ls v W
theorem Ns{o u:BAt}(ho:Ae o.ls)(hu:Ae u.ls)(hm:∀ y∈ls,y∈o.ls∨y∈u.ls)(hl:ls.length≤1048576):Ae ls:=⟨hl,fun x hx=>by
 rcases hm x hx with h | h
 ·exact ho.2 x h
 ·exact hu.2 x h⟩
theorem Lk(f:α→β){L D T:List α}{x:α}(e:L=D++x::T):(L.map f).take (D.length+1)=(L.map f).take D.length++[f x]:=by
 subst e;have hl:(D.map f).length=D.length:=by simp
 rw[List.map_append,List.map_cons,← hl,List.take_append_of_le_length (Nat.le_refl _),List.take_length,List.take_append,List.take_of_length_le (by omega)];simp
theorem Acb{us os:List PLine}{a:PLine}:Kj (us++[a]) os=Kj us os++(if (!hasK os a.key)=true then [a] else []):=by
 unfold Kj;rw[List.filter_append];congr 1;simp[List.filter_cons]
def Acd(R:List Plain)(ls:List LAt)(v:Value)(x:LAt)(W1:World)(v':Value)(W2:World):Prop:=∃ ls':List LAt,ls'.map LAt.plain=Dd (lineLt R) x.plain (ls.map LAt.plain)∧ls'.length=ls.length+1∧(∀ y∈ls',y=x∨y∈ls)∧Ah W2 v' ls'∧∀ q,q<W1.heap.size→Aj q v ls→Cr q x.v x.ws.length→Aj q v' ls'
theorem Nt{x:LAt}(hb:Ah W v ls)(hs:Ae ls)(hx:Dm W x)(hxs:x.ws.length≤1048576):Calls Tryz.prog 86 #[.agg #[.string kind,.string name,v],.agg #[.string x.key,x.v]] W fun e w'=>∃ q m cc,e=.returned (.agg #[.string kind,.string name,.slice q m cc])∧Acd (rulesOf kind) ls v x W (.slice q m cc) w'∧Below W.heap.size W w':=by
 refine(Li (b:=⟨kind,name,v,ls⟩) (x:=x) hb hs hx hxs).mono ?_;rintro e w' ⟨a,n,c,ls',rfl,h,b⟩;exact⟨a,n,c,rfl,⟨ls',h⟩,b⟩
theorem L6S.out{u o:BAt}{a:Option Addr}(h:L6S w w.heap.size (w.heap.size+1) (w.heap.size+3) u o ls (.slice a n c) W)(hp:ls.map LAt.plain=Wn (rulesOf o.kind) (u.ls.map LAt.plain) (o.ls.map LAt.plain))(cs:Array Value):Aec u o w (.returned (.agg #[.string o.kind,.string o.name,.slice a n c])) (W.setRow (w.heap.size+2) cs):=by
 have gs:=Bx W (w.heap.size+2) cs;exact⟨a,n,c,ls,rfl,⟨hp,h.mem,h.lin.far (h.far _ (by omega) (h.ufar _ (by omega)) (h.ofar _ (by omega))) gs,fun q hq hu ho=>h.far q (by omega) hu ho⟩,Bu h.bw h.bw.size (by omega) gs⟩
theorem Xg{u o:BAt}(hu:Cb w u)(ho:Cb w o)(hsu:Ae u.ls)(hso:Ae o.ls)(hl:o.ls.length+u.ls.length≤1000000):Calls Tryz.prog 53 #[.agg #[.string u.kind,.string u.name,u.v],.agg #[.string o.kind,.string o.name,o.v]] w fun e w'=>Aec u o w e w':=by
 obtain⟨ua,uc,eu⟩:=hu.1.form;obtain⟨oa,oc,eo⟩:=ho.1.form;obtain⟨uk,un,uv,ul⟩:=u;obtain⟨ok,on,ov,ol⟩:=o;simp only at eu eo hsu hso hl;subst eu eo;have a3:=I4 (w:=w) (o1:=.cells #[.string uk,.string un,.slice ua ul.length uc] 46) (o2:=.cells #[.string ok,.string on,.slice oa ol.length oc] 46) (o3:=.cells #[.string ⟨#[]⟩,.string ⟨#[]⟩,.slice none 0 0] 46);have b3:Below w.heap.size w (((w.alloc (.cells #[.string uk,.string un,.slice ua ul.length uc] 46)).alloc (.cells #[.string ok,.string on,.slice oa ol.length oc] 46)).alloc (.cells #[.string ⟨#[]⟩,.string ⟨#[]⟩,.slice none 0 0] 46)):=(((Below.refl _ _).alloc (Nat.le_refl _) _).alloc (by simp) _).alloc (by simp;omega) _;have co0:=Ab a3.2.2.1 0;have co1:=Ab a3.2.2.1 1;simp only[List.getElem?_toArray,List.getElem?_cons_zero,List.getElem?_cons_succ]at co0 co1;obtain⟨s3,hub,hob,hrb⟩:=a3;have HL0:L6S w w.heap.size (w.heap.size+1) (w.heap.size+3) ⟨uk,un,.slice ua ul.length uc,ul⟩ ⟨ok,on,.slice oa ol.length oc,ol⟩ [] (.slice none 0 0) ((((w.alloc (.cells #[.string uk,.string un,.slice ua ul.length uc] 46)).alloc (.cells #[.string ok,.string on,.slice oa ol.length oc] 46)).alloc (.cells #[.string ⟨#[]⟩,.string ⟨#[]⟩,.slice none 0 0] 46)).alloc (.cells #[.string ok,.string on,.slice none 0 0] 46)):=by
  generalize hW3:((w.alloc (.cells #[.string uk,.string un,.slice ua ul.length uc] 46)).alloc (.cells #[.string ok,.string on,.slice oa ol.length oc] 46)).alloc (.cells #[.string ⟨#[]⟩,.string ⟨#[]⟩,.slice none 0 0] 46)=W3 at *;have x4:=(Below.refl W3.heap.size W3).alloc (Nat.le_refl _) (.cells #[.string ok,.string on,.slice none 0 0] 46);have z4:=Al W3 (.cells #[.string ok,.string on,.slice none 0 0] 46);rw[s3]at z4;have b4:=b3.trans (x4.mono b3.size);exact⟨b4,(x4.block _ (by omega)).trans hub,(x4.block _ (by omega)).trans hob,z4,(x4.block _ (by omega)).trans hrb,Cb.below hu (b4.mono (Nat.le_refl _)),Cb.below ho (b4.mono (Nat.le_refl _)),⟨⟨rfl,none,0,rfl,⟨Nat.le_refl _,Nat.zero_le _⟩,.inl rfl⟩,by simp⟩,by simp,fun q _ _ _=>⟨.inl rfl,by simp⟩,fun q hq=>Ah.fresh hu hq,fun q hq=>Ah.fresh ho hq⟩
 have HLH:=Aa HL0;have HSU:=Aa hsu;have HSO:=Aa hso;have HU:=Aa hu;have HO:=Aa ho;clear HL0 hu ho hsu hso hub hob hrb b3;generalize hnu:ul.length=nu at *;generalize hno:ol.length=no at *;have ENU:=Aa hnu;have ENO:=Aa hno;clear hnu hno;go_enter Tryz.func53,Tryz.ntmps53;go_wp2;go_loopw [6] (fun i wr=>Aie w ⟨uk,un,.slice ua nu uc,ul⟩ ⟨ok,on,.slice oa no oc,ol⟩ i wr) (fun i _=>no - (intOf i).toNat)
 case atStart=>exact⟨0,.slice none 0 0,[],rfl,Nat.zero_le _,rfl,by simp[Da],HLH.out⟩
 case round =>
  obtain⟨j,v,ls,rfl,hj,hlj,hpl,HS⟩:=hrel;simp only[ENO.out]at hj;simp only at hpl;clear HLH;have cO:=Ab HS.ob 2;simp only[List.getElem?_toArray,List.getElem?_cons_zero,List.getElem?_cons_succ]at cO;obtain⟨ba,bc,rfl⟩:=HS.lin.1.form;by_cases hlt:j<no
  ·have hlt':(j:Int)<(no:Int):=by omega
   obtain⟨D,⟨xk,xv,xw⟩,T,eol,hD⟩:=Br ol j (by have:=ENO.out;omega);have hrow:=HS.oin.1;simp only at hrow;rw[eol]at hrow;obtain⟨b0,off,rfl,c0,c1⟩:=hrow.line;rw[hD]at c0 c1;have hxin:=HS.oin.2 ⟨xk,xv,xw⟩ (by rw[eol];simp);obtain⟨xa,xc,exv⟩:=hxin.form;simp only at exv;subst exv;have hxs:=(HSO.out.2 ⟨xk,.slice xa xw.length xc,xw⟩ (by rw[eol];simp)).1;have hmx:(⟨xk,.slice xa xw.length xc,xw⟩:LAt)∈ol:=by rw[eol];simp
   have HP:∀ W,Below wr.heap.size wr W→Calls Tryz.prog 86 #[.agg #[.string ok,.string on,.slice ba ls.length bc],.agg #[.string xk,.slice xa xw.length xc]] W fun e w'=>∃ q m cc,e=.returned (.agg #[.string ok,.string on,.slice q m cc])∧Acd (rulesOf ok) ls (.slice ba ls.length bc) ⟨xk,.slice xa xw.length xc,xw⟩ W (.slice q m cc) w'∧Below W.heap.size W w':=fun W hb=>Nt (x:=⟨xk,.slice xa xw.length xc,xw⟩) (HS.lin.below hb) (Ns HSO.out HSU.out HS.mem (by have:=ENO.out;omega)) (Dm.below hxin hb) hxs
   have hnx:=Aa (show Da (rulesOf ok) ((ol.map LAt.plain).take (j+1))=Dd (lineLt (rulesOf ok)) (LAt.plain ⟨xk,.slice xa xw.length xc,xw⟩) (ls.map LAt.plain) from by rw[hpl,← hD,Lk LAt.plain eol,Kg]);have HSH:=Aa HS;have xb:=HS.xb;have HLJ:=Aa hlj;simp only at xb;clear HS hrow hxin hxs hpl eol;generalize hnl:ls.length=nl at *;generalize hnw:xw.length=nw at *;go_upto_region 5 with fail
   refine Ad2 (Acd (rulesOf ok) ls (.slice ba nl bc) ⟨xk,.slice xa nw xc,xw⟩) xb cO c0 c1 (by omega) HP (by kernel_rfl) (by kernel_rfl) (by kernel_rfl) (by kernel_rfl) ?_;rintro v2 a' q m cc W1 W2 ha' hb1 ⟨ls',h1,h2,h3,h4,h5⟩ hb2;simp only[Aq,Fb,List.setIfInBounds_toArray,List.set_cons_zero,List.set_cons_succ]at ha';subst ha';have HS2:=Aa (HSH.out.put rfl rfl rfl hb1 hb2 h4 h3 (.inl hmx) h5);have HPL:=Aa (h1.trans hnx.out.symm);clear HP HSH h1 h3 h4 h5 hb1 hb2 c0 c1 cO xb;go_wp2;go_roundw;case rel=>exact⟨j+1,.slice q m cc,ls',by go_num,by simp only;have:=ENO.out;omega,by omega,HPL.out,HS2.out⟩
   case measure=>simp[intOf];omega
  ·obtain rfl:j=no:=by omega
   have hlt':¬ ((j:Int)<(j:Int)):=by omega
   have hall:(ol.map LAt.plain).take j=ol.map LAt.plain:=List.take_of_length_le (by rw[List.length_map,ENO.out];exact Nat.le_refl _);rw[hall]at hpl;have HSH:=Aa HS;have HPL:=Aa hpl;clear HS hpl hall;generalize hnl:ls.length=nl at *;go_wp2;go_loopw [7] (fun i wr=>Aif w ⟨uk,un,.slice ua nu uc,ul⟩ ⟨ok,on,.slice oa j oc,ol⟩ i wr) (fun i _=>nu - (intOf i).toNat)
   case atStart=>exact⟨0,.slice ba nl bc,ls,rfl,Nat.zero_le _,by simp only;have:=ENO.out;omega,by simpa [Kj] using HPL.out,HSH.out⟩
   case round =>
    obtain⟨k,v2,ls2,rfl,hk,hl2,hpl2,HS⟩:=hrel;simp only[ENU.out]at hk;simp only at hpl2 hl2;clear HSH HPL;have cU:=Ab HS.ub 2;simp only[List.getElem?_toArray,List.getElem?_cons_zero,List.getElem?_cons_succ]at cU;obtain⟨ba2,bc2,rfl⟩:=HS.lin.1.form;by_cases hlt2:k<nu
    ·have hlt2':(k:Int)<(nu:Int):=by omega
     obtain⟨D,⟨xk,xv,xw⟩,T,eul,hD⟩:=Br ul k (by have:=ENU.out;omega);have hrow:=HS.uin.1;simp only at hrow;rw[eul]at hrow;obtain⟨b0,off,rfl,c0,c1⟩:=hrow.line;rw[hD]at c0 c1;have hxin:=HS.uin.2 ⟨xk,xv,xw⟩ (by rw[eul];simp);obtain⟨xa,xc,exv⟩:=hxin.form;simp only at exv;subst exv;have hxs:=(HSU.out.2 ⟨xk,.slice xa xw.length xc,xw⟩ (by rw[eul];simp)).1;have hmx:(⟨xk,.slice xa xw.length xc,xw⟩:LAt)∈ul:=by rw[eul];simp
     have HKN:∀ W,Below wr.heap.size wr W→Calls Tryz.prog 89 #[.agg #[.string ok,.string on,.slice oa j oc],.string xk] W fun e w'=>Qh (!hasK (ol.map LAt.plain) xk) W e w':=fun W hb=>Ab2 xk (b:=⟨ok,on,.slice oa j oc,ol⟩) (Cb.below HS.oin hb) HSO.out
     have hleft:=Aa (show Kj ((ul.map LAt.plain).take (k+1)) (ol.map LAt.plain)=Kj ((ul.map LAt.plain).take k) (ol.map LAt.plain)++(if (!hasK (ol.map LAt.plain) xk)=true then [LAt.plain ⟨xk,.slice xa xw.length xc,xw⟩] else []) from by rw[← hD,Lk LAt.plain eul,Acb];rfl);have HPL2:=Aa hpl2;have ob:=HS.ob;simp only at ob;cases hKK:(!hasK (ol.map LAt.plain) xk)
     ·rw[hKK]at HKN;have hpl3:=Aa (show ls2.map LAt.plain=Da (rulesOf ok) (ol.map LAt.plain++Kj ((ul.map LAt.plain).take (k+1)) (ol.map LAt.plain)) from by rw[hleft.out,hKK,HPL2.out];simp);have HSH:=Aa HS;clear HS hrow hxin hxs hpl2 eul hleft HPL2 hKK;generalize hnl2:ls2.length=nl2 at *;generalize hnw:xw.length=nw at *;go_upto_region 9 with fail
      refine Xb ob cU c0 (by omega) HKN (by kernel_rfl) (by kernel_rfl) (by kernel_rfl) (by kernel_rfl) ?_;intro v3 a' W' ha' e9 hb;simp only[Aq,Fb,List.setIfInBounds_toArray,List.set_cons_zero,List.set_cons_succ,e9]at ha';subst ha';have HS3:=Aa (HSH.out.below hb);clear HKN HSH hb c0 c1 cU ob e9;go_wp2;go_roundw;case rel=>exact⟨k+1,.slice ba2 nl2 bc2,ls2,by go_num,by simp only;have:=ENU.out;omega,by simp only;omega,hpl3.out,HS3.out⟩
      case measure=>simp[intOf];omega
     ·rw[hKK]at HKN;have hpl3:=Aa (show Da (rulesOf ok) (ol.map LAt.plain++Kj ((ul.map LAt.plain).take (k+1)) (ol.map LAt.plain))=Dd (lineLt (rulesOf ok)) (LAt.plain ⟨xk,.slice xa xw.length xc,xw⟩) (ls2.map LAt.plain) from by rw[hleft.out,hKK,HPL2.out,if_pos rfl,← List.append_assoc,Kg]);have hsm2:Ae ls2:=Ns HSO.out HSU.out HS.mem (by have:=ENO.out;have:=ENU.out;omega);have HSH:=Aa HS;have HXI:=Aa hxin;have HXS:=Aa hxs;have HSM2:=Aa hsm2;clear HS hrow hxin hxs hpl2 eul hleft HPL2 hKK hsm2;generalize hnl2:ls2.length=nl2 at *;generalize hnw:xw.length=nw at *;go_upto_region 9 with fail
      refine Xb ob cU c0 (by omega) HKN (by kernel_rfl) (by kernel_rfl) (by kernel_rfl) (by kernel_rfl) ?_;intro v3 a' W' ha' e9 hb;simp only[Aq,Fb,List.setIfInBounds_toArray,List.set_cons_zero,List.set_cons_succ,e9]at ha';subst ha';have HS3:=HSH.out.below hb;have xb3:=HS3.xb;simp only at xb3;have cU3:=(hb.cell (World.block_lt_of_cell? _ _ cU)).trans cU;have c03:=(hb.cell (World.block_lt_of_cell? _ _ c0)).trans c0;have c13:=(hb.cell (World.block_lt_of_cell? _ _ c1)).trans c1;have HP:∀ W,Below W'.heap.size W' W→Calls Tryz.prog 86 #[.agg #[.string ok,.string on,.slice ba2 nl2 bc2],.agg #[.string xk,.slice xa nw xc]] W fun e w'=>∃ q m cc,e=.returned (.agg #[.string ok,.string on,.slice q m cc])∧Acd (rulesOf ok) ls2 (.slice ba2 nl2 bc2) ⟨xk,.slice xa nw xc,xw⟩ W (.slice q m cc) w'∧Below W.heap.size W w':=fun W hb2=>Nt (x:=⟨xk,.slice xa nw xc,xw⟩) (HS3.lin.below hb2) HSM2.out (Dm.below (Dm.below HXI.out hb) hb2) (by simp only;rw[hnw];exact HXS.out)
      have HS3H:=Aa HS3;clear HKN HSH c0 c1 cU ob e9 HS3;go_upto_region 10 with fail
      refine Ab7 (Acd (rulesOf ok) ls2 (.slice ba2 nl2 bc2) ⟨xk,.slice xa nw xc,xw⟩) xb3 cU3 c03 c13 (by omega) HP (by kernel_rfl) (by kernel_rfl) (by kernel_rfl) (by kernel_rfl) ?_;rintro v4 a' q m cc W1 W2 ha' hb1 ⟨ls',h1,h2,h3,h4,h5⟩ hb2;simp only[Aq,Fb,List.setIfInBounds_toArray,List.set_cons_zero,List.set_cons_succ]at ha';subst ha';have HS4:=Aa (HS3H.out.put rfl rfl rfl hb1 hb2 h4 h3 (.inr hmx) h5);have HPL:=Aa (h1.trans hpl3.out.symm);clear HP HS3H h1 h3 h4 h5 hb1 hb2 c03 c13 cU3 xb3;go_wp2;go_roundw;case rel=>exact⟨k+1,.slice q m cc,ls',by go_num,by simp only;have:=ENU.out;omega,by simp only;omega,HPL.out,HS4.out⟩
      case measure=>simp[intOf];omega
    ·obtain rfl:k=nu:=by omega
     have hlt2':¬ ((k:Int)<(k:Int)):=by omega
     have hall:(ul.map LAt.plain).take k=ul.map LAt.plain:=List.take_of_length_le (by rw[List.length_map,ENU.out];exact Nat.le_refl _);rw[hall]at hpl2;have HO:=Aa (HS.out hpl2 #[.string ok,.string on,.slice ba2 ls2.length bc2]);have x0:=Ab HS.xb 0;have x1:=Ab HS.xb 1;have x2:=Ab HS.xb 2;simp only[List.getElem?_toArray,List.getElem?_cons_zero,List.getElem?_cons_succ]at x0 x1 x2;have zR:=HS.rb;clear HS hpl2 hall;generalize hnl2:ls2.length=nl2 at *;go_wp2_with (with_reducible show wpList _ _ _ (Oper.mk _ (Op.store _ (Operand.tmp 4) _) _ _ _ _::_) _ _;refine wpList_store_row rfl 46 _ _ rfl (w.heap.size+2) #[.string ok,.string on,.slice ba2 nl2 bc2] ?_ ?_ 46 _ zR ?_ ?_ ?_ ?_)
     all_goals (first | rfl | kernel_rfl | exact⟨rfl,rfl,rfl⟩ | (obtain⟨i9,e9,_,s9,_⟩:=info_parts Cn;exact⟨i9,e9,s9⟩) | skip)
     have z5:(wr.setRow (w.heap.size+2) #[.string ok,.string on,.slice ba2 nl2 bc2]).heap[w.heap.size+2]?=some (.cells #[.string ok,.string on,.slice ba2 nl2 bc2] 46 (0,0)):=setRow_heap _ _ _ _ _ _ zR;have y0:=Ab z5 0;have y1:=Ab z5 1;have y2:=Ab z5 2;simp only[List.getElem?_toArray,List.getElem?_cons_zero,List.getElem?_cons_succ]at y0 y1 y2;generalize wr.setRow (w.heap.size+2) #[.string ok,.string on,.slice ba2 nl2 bc2]=W at HO y0 y1 y2 z5 ⊢;exact bodyPost_ret (v:=.agg #[.string ok,.string on,.slice ba2 nl2 bc2]) (by simp[results,Tryz.results53,go_sem,y0,y1,y2]) rfl HO.out
variable {R:List Plain}
structure S6S(w:World)(X:Nat)(uv ov:Value)(us os xs:List BAt)(v:Value)(W:World):Prop where
 bw:Below w.heap.size w W
 ub:W.heap[w.heap.size]?=some (.cells #[uv] 25 (0,0))
 ob:W.heap[w.heap.size+1]?=some (.cells #[ov] 25 (0,0))
 rb:W.heap[w.heap.size+2]?=some (.cells #[.slice none 0 0] 25 (0,0))
 xb:W.heap[X]?=some (.cells #[v] 25 (0,0))
 uin:Aw W uv us
 oin:Aw W ov os
 bin:Aw W v xs
 far:Bk X v xs
 ufar:∀ q,w.heap.size≤q→Bk q uv us
 ofar:∀ q,w.heap.size≤q→Bk q ov os
 small:∀ y∈xs,y.name.size≤1048576∧Ae y.ls
 hX:w.heap.size+3≤X
theorem Aev{u o:List PLine}:(Wn R u o).length≤o.length+u.length:=by
 unfold Wn;rw[(D0 _ _).length_eq,List.length_append];have:(Kj u o).length≤u.length:=List.length_filter_le _ _;omega
end Go.Proofs.YtpdahhnjhggocaaGreatDoor
