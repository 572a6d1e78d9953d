import Derived.Test.YtpdahhnjhggocaaGreatDoorMz40
namespace Go.Proofs.YtpdahhnjhggocaaGreatDoor
open Go.RowKit
set_option maxHeartbeats 16000000
set_option maxRecDepth 100000
variable {A A':List PBlock}{m X c n base B t M:Nat}{W w w':World}{v:Value}{xs:List Value}{ls:List LAt}{cs:Array Value}{bs:List BAt}
def Ra(cs:List PChange):Nat:=(cs.map (fun c=>c.lines.length)).sum
theorem Qq(c:PChange)(cs:List PChange):Ra (c::cs)=c.lines.length+Ra cs:=by unfold Ra;simp
theorem Xh(R:List Plain)(ls:List PLine)(key:ByteArray)(xs:List PLine):(Ej R ls key xs).length=(ls.filter (D6 key)).length+xs.length:=by
 unfold Ej;generalize ls.filter (D6 key)=acc
 induction xs generalizing acc with
 | nil=>rfl
 | cons a xs ih=>rw[List.foldl_cons,ih,(Fp (lineLt R) a acc).length_eq];simp;omega
theorem Aef{c:PChange}(h:oneS A c=some A')(hA:∀ b∈A,b.lines.length≤m):∀ b∈A',b.lines.length≤m+c.lines.length:=by
 have hswap:∀ ls:List PLine,ls.length≤m+c.lines.length→∀ b∈La A c.kind c.name ls,b.lines.length≤m+c.lines.length:=fun ls hl b hb=>by
  unfold La at hb;obtain⟨b0,h0,e0⟩:=List.mem_map.1 hb;by_cases hh:Bc c.kind c.name b0=true
  ·rw[if_pos hh]at e0;rw[← e0];exact hl
  ·rw[if_neg hh]at e0;rw[← e0];have:=hA b0 h0;omega
 unfold oneS at h;split at h
 ·split at h
  ·cases h
   intro b hb;rcases List.mem_cons.1 ((Fp blockLt _ A).mem_iff.1 hb) with rfl | hb
   ·exact Nat.le_add_left _ _
   ·have:=hA b hb;omega
  ·cases h
 ·rename_i b0 hb0;have hm:=hA b0 (En hb0).1;split at h
  ·cases h
   intro b hb;have:=hA b (List.mem_filter.1 hb).1;omega
  split at h
  ·cases h
   refine hswap _ ?_;rw[Xh];have:=List.length_filter_le (D6 c.key) b0.lines;omega
  split at h
  ·cases h
   refine hswap _ ?_;have:=List.length_filter_le (D6 c.key) b0.lines;omega
  ·cases h
theorem Aa3{a:Option Addr}{T:TypeId}(hx:Ar W X #[.slice a m c] T){size:Nat}(h:An W v n size xs)(hs:0<n→∃ s,xs[0]?=some (.string s)):Cr X v n:=by
 obtain⟨hl,ao,cap,rfl,hk,hc⟩:=h;rcases hc with h0 | ⟨b,off,rfl,hc⟩
 ·exact .inl h0
 ·by_cases h0:n=0
  ·exact .inl h0
  ·refine .inr fun b' off' m' c' e hb=>?_
   obtain⟨s,hs⟩:=hs (by omega);have h1:=hc 0 _ hs;cases e
   subst hb;have h2:=Ab hx (off+0);rw[h2,List.getElem?_toArray]at h1
   match ho:off+0 with
   | 0=>rw[ho]at h1;simp at h1
   | k+1=>rw[ho]at h1;simp at h1
theorem Sp{a:Option Addr}{T:TypeId}(hx:Ar W X #[.slice a m c] T)(h:Ah W v ls):Aj X v ls:=by
 refine⟨Aa3 hx h.1 fun hn=>?_,fun y hy=>Aa3 hx (h.2 y hy) fun hn=>?_⟩
 ·cases ls with
  | nil=>exact absurd hn (by simp)
  | cons y ls=>exact⟨y.key,by simp[LAt.cells]⟩
 ·cases hw:y.ws with
  | nil=>rw[hw]at hn;exact absurd hn (by simp)
  | cons s ss=>exact⟨⟨s.toArray⟩,by unfold strs;simp⟩
theorem Hu{size:Nat}{T e:TypeId}(hx:Ar W X cs T)(h:W.ownsRow base e size v n xs)(hT:T≠e):v.ownBlock≠some X:=by
 intro hv;rcases h.2 with ⟨rfl,_⟩ | ⟨g,cap,cur,rfl,_,hg,_⟩
 ·cases hv
 ·have hgx:g=X:=Option.some.inj hv;rw[hgx]at hg;have e2:some (Obj.cells cs T (0,0))=some (Obj.cells cur e (0,0)):=(show W.heap[X]?=_ from hx).symm.trans hg;injection e2 with e2
  injection e2 with _ e3
  exact hT e3
theorem Acf{c:A6}(hB:B≤w.heap.size)(hr:Du B w v bs)(hok:Ax (bs.map BAt.plain))(hc:Ah w c.v c.ls)(hcf:∀ q,B≤q→Aj q c.v c.ls)(hcs:Ae c.ls)(hcn:c.name.size≤1048576)(hbud:∀ b∈bs,b.ls.length+c.ls.length≤1048576):Calls Tryz.prog 99 #[.agg #[v],.agg #[.int .i64 c.what,.string c.kind,.string c.name,.string c.key,c.v]] w fun e w'=>Eb B v (oneS (bs.map BAt.plain) c.plain) w e w':=by
 by_cases h1:c.what=1
 ·exact Aca hB hr hok hc hcf hcs h1
 by_cases h2:c.what=2
 ·exact Aea hB hr hok hc hcf hcs h2 hcn
 by_cases h3:c.what=3
 ·exact Aee hB hr hok hc hcf hcs h3 hbud
 by_cases h4:c.what=4
 ·exact Zr hB hr hok hc hcf hcs h4 hbud
 exact Zp hB hr hok hc hcf hcs h1 h2 h3 h4
def Xi(B:Nat)(O:Option (List PBlock))(u:Value)(ok:Bool)(w':World):Prop:=(O=none∧ok=false)∨∃ A bs',O=some A∧ok=true∧bs'.map BAt.plain=A∧Du B w' u bs'
theorem Xi.below{O:Option (List PBlock)}{u:Value}{ok:Bool}(h:Xi B O u ok w)(hb:Below w.heap.size w w'):Xi B O u ok w':=by
 rcases h with h | ⟨A,bs',h1,h2,h3,h4⟩
 ·exact .inl h
 ·exact .inr ⟨A,bs',h1,h2,h3,h4.below hb⟩
theorem Aa4{O:Option (List PBlock)}{e:Ending}(h:Eb B v O w e w'):∃ a n c ok,e=.returned (.tuple #[.agg #[.slice a n c],.bool ok])∧Below B w w'∧Cs v w w'∧Xi B O (.slice a n c) ok w':=by
 obtain⟨h1,h2,h3⟩:=h;cases O with
 | none =>
  obtain⟨a,n,c,he⟩:=h3;exact⟨a,n,c,false,he,h1,h2,.inl ⟨rfl,rfl⟩⟩
 | some A =>
  obtain⟨a,n,c,bs',he,hp,hb⟩:=h3;exact⟨a,n,c,true,he,h1,h2,.inr ⟨A,bs',rfl,rfl,hp,hb⟩⟩
theorem Fz:(∀ b∈bs,b.ls.length+t≤M)↔∀ p∈bs.map BAt.plain,p.lines.length+t≤M:=by
 constructor
 ·intro h p hp;obtain⟨b,hb,rfl⟩:=List.mem_map.1 hp;have:=h b hb;unfold BAt.plain;simpa using this
 ·intro h b hb;have:=h b.plain (List.mem_map_of_mem hb);unfold BAt.plain at this;simpa using this
def Nu(G:List PBlock × Int)(w:World)(e:Ending)(w':World):Prop:=∃ v' bs',e=.returned (.tuple #[.agg #[v'],.int .i64 G.2])∧bs'.map BAt.plain=G.1∧As w.heap.size w' v' bs'∧Below w.heap.size w w'
theorem Mp(i:Nat)(A:List PBlock)(c:PChange)(cs:List PChange):Ea i A (c::cs)=match oneS A c with
  | none=>([],2+(i:Int))
  | some A'=>Ea (i+1) A' cs:=rfl
theorem Xj{c:PChange}(h:oneS A c=some A')(ht:c.lines.length+t≤M)(hA:∀ b∈A,b.lines.length+(c.lines.length+t)≤M):∀ b∈A',b.lines.length+t≤M:=fun b hb=>by
 have:=Aef (m:=M - (c.lines.length+t)) h (fun b hb=>by have:=hA b hb;omega) b hb;omega
def ApJ(w:World)(X:Nat)(cs:List A6)(G:List PBlock × Int)(i:Value)(W:World):Prop:=∃(k:Nat) (a:Option Addr) (n c:Nat) (bs:List BAt),i=.int .i64 (k:Int)∧k≤cs.length∧Below w.heap.size w W∧Ar W (w.heap.size+1) #[.slice none 0 0] 25∧Ar W X #[.slice a n c] 25∧Du (w.heap.size+2) W (.slice a n c) bs∧Ax (bs.map BAt.plain)∧Ea k (bs.map BAt.plain) ((cs.drop k).map A6.plain)=G∧Ra ((cs.drop k).map A6.plain)≤1048576∧∀ b∈bs,b.ls.length+Ra ((cs.drop k).map A6.plain)≤1048576
def Og(p:Int):List PanicEntry:=[{ v:=.iface 173 (.agg #[.int .i64 p]),recovered:=false }]
def Hl(c:PChange):Prop:=(c.what=1∧c.key=⟨#[]⟩∧c.lines=[])∨(c.what=2∧c.key=⟨#[]⟩)∨(c.what=3∧c.lines≠[]∧∀ a∈c.lines,a.key=c.key)∨(c.what=4∧c.lines=[])
def K4(p:Int)(c:A6)(w:World)(e:Ending)(w':World):Prop:=Below w.heap.size w w'∧((Hl c.plain∧∃ v',e=.returned (A6.step ⟨c.what,c.kind,c.name,c.key,v',c.ls⟩)∧Ah w' v' c.ls)∨(¬ Hl c.plain∧e=.panicked (Og p)))
theorem Aag{k n y:ByteArray}{L:List PLine}:Hl ⟨1,k,n,y,L⟩↔y=⟨#[]⟩∧L=[]:=by simp[Hl]
theorem Ae8{k n y:ByteArray}{L:List PLine}:Hl ⟨2,k,n,y,L⟩↔y=⟨#[]⟩:=by simp[Hl]
theorem Aah{k n y:ByteArray}{L:List PLine}:Hl ⟨3,k,n,y,L⟩↔L≠[]∧∀ a∈L,a.key=y:=by simp[Hl]
theorem Ae9{k n y:ByteArray}{L:List PLine}:Hl ⟨4,k,n,y,L⟩↔L=[]:=by simp[Hl]
theorem Yd{c:PChange}(h1:c.what≠1)(h2:c.what≠2)(h3:c.what≠3)(h4:c.what≠4):¬ Hl c:=by
 intro h;rcases h with h | h | h | h
 ·exact h1 h.1
 ·exact h2 h.1
 ·exact h3 h.1
 ·exact h4 h.1
theorem Ye{ls:List LAt}{k:ByteArray}(h:(withKey ls k).length=ls.length):withKey ls k=ls:=List.filter_eq_self.2 (by
 have:=List.length_filter_eq_length_iff.1 h;exact this)
theorem Aai{p:Int}{c:A6}(hm:w.cell? ⟨M,1,none⟩=some (.int .i64 p))(hc:Ah w c.v c.ls)(hl:c.ls.length≤1048576)(h1:c.what≠1)(h2:c.what≠2)(h3:c.what≠3)(h4:c.what≠4):Calls Tryz.prog 131 #[.pointer (some ⟨M,0,none⟩),.agg #[.int .i64 c.what,.string c.kind,.string c.name,.string c.key,c.v]] w fun e w'=>K4 p c w e w':=by
 obtain⟨what,ck,cn,cy,cv,cl⟩:=c;have hc0:Ah w cv cl:=hc;clear hc;have hl0:cl.length≤1048576:=hl;clear hl;obtain⟨la,lc,rfl⟩:=hc0.1.form;have g1:what≠1:=h1;have g2:what≠2:=h2;have g3:what≠3:=h3;have g4:what≠4:=h4;clear h1 h2 h3 h4;have e1:(what == 1)=false:=by simpa using g1
 have e2:(what == 2)=false:=by simpa using g2
 have e3:(what == 3)=false:=by simpa using g3
 have e4:(what == 4)=false:=by simpa using g4
 have b0:Below w.heap.size w ((w.alloc (.cells #[.int .i64 what,.string ck,.string cn,.string cy,.slice la cl.length lc] 93)).alloc (.cells #[.string ck,.string cn] 73)):=((Below.refl w.heap.size w).alloc (Nat.le_refl _) _).alloc (by simp) _;have hz:=Di (w:=w) (cs:=#[.int .i64 what,.string ck,.string cn,.string cy,.slice la cl.length lc]) (ds:=#[.string ck,.string cn]) (T:=93) (U:=73);have q0:=hz.1 0;have q1:=hz.1 1;have q2:=hz.1 2;have q3:=hz.1 3;have q4:=hz.1 4;have r0:=hz.2 0;have r1:=hz.2 1;have p0:=Bg (w:=w) (cs:=#[.int .i64 what,.string ck,.string cn,.string cy,.slice la cl.length lc]) (T:=93) 1;have p1:=Bg (w:=w) (cs:=#[.int .i64 what,.string ck,.string cn,.string cy,.slice la cl.length lc]) (T:=93) 2;have hml:=World.block_lt_of_cell? w _ hm;have m1:=(b0.cell hml).trans hm;simp only[List.getElem?_toArray,List.getElem?_cons_zero,List.getElem?_cons_succ]at q0 q1 q2 q3 q4 r0 r1 p0 p1;have HLW:=fun rk=>C3 rk (hc0.below b0) hl0
 have HCI:=Aa (hc0.below b0);clear hz hc0;generalize hnl:cl.length=nl at *;have enl:=Aa hnl;clear hnl;go_enter Tryz.func131,Tryz.ntmps131;clear HLW;go_wp2;exact⟨rfl,b0,.inr ⟨Yd g1 g2 g3 g4,rfl⟩⟩
theorem Afa{p:Int}{c:A6}(hm:w.cell? ⟨M,1,none⟩=some (.int .i64 p))(hc:Ah w c.v c.ls)(hl:c.ls.length≤1048576)(hw:c.what=2):Calls Tryz.prog 131 #[.pointer (some ⟨M,0,none⟩),.agg #[.int .i64 c.what,.string c.kind,.string c.name,.string c.key,c.v]] w fun e w'=>K4 p c w e w':=by
 obtain⟨what,ck,cn,cy,cv,cl⟩:=c;have hc0:Ah w cv cl:=hc;clear hc;have hl0:cl.length≤1048576:=hl;clear hl;obtain⟨la,lc,rfl⟩:=hc0.1.form;have hw0:what=2:=hw;clear hw;subst hw0;have b0:Below w.heap.size w ((w.alloc (.cells #[.int .i64 2,.string ck,.string cn,.string cy,.slice la cl.length lc] 93)).alloc (.cells #[.string ck,.string cn] 73)):=((Below.refl w.heap.size w).alloc (Nat.le_refl _) _).alloc (by simp) _;have hz:=Di (w:=w) (cs:=#[.int .i64 2,.string ck,.string cn,.string cy,.slice la cl.length lc]) (ds:=#[.string ck,.string cn]) (T:=93) (U:=73);have q0:=hz.1 0;have q1:=hz.1 1;have q2:=hz.1 2;have q3:=hz.1 3;have q4:=hz.1 4;have r0:=hz.2 0;have r1:=hz.2 1;have p0:=Bg (w:=w) (cs:=#[.int .i64 2,.string ck,.string cn,.string cy,.slice la cl.length lc]) (T:=93) 1;have p1:=Bg (w:=w) (cs:=#[.int .i64 2,.string ck,.string cn,.string cy,.slice la cl.length lc]) (T:=93) 2;have hml:=World.block_lt_of_cell? w _ hm;have m1:=(b0.cell hml).trans hm;simp only[List.getElem?_toArray,List.getElem?_cons_zero,List.getElem?_cons_succ]at q0 q1 q2 q3 q4 r0 r1 p0 p1;have HLW:=fun rk=>C3 rk (hc0.below b0) hl0
 have HCI:=Aa (hc0.below b0);clear hz hc0;generalize hnl:cl.length=nl at *;have enl:=Aa hnl;clear hnl;go_enter Tryz.func131,Tryz.ntmps131;clear HLW;by_cases hk:cy=⟨#[]⟩
 ·subst hk;go_wp2_with (go_at_call 173;refine(Fd M _).mono ?_;rintro e w2 ⟨rfl,rfl⟩)
  refine bodyPost_ret (v:=.iface 185 (.agg #[.string ck,.string cn,.slice la nl lc])) (by simp[results,Tryz.results131,go_sem]) rfl ⟨b0,.inl ⟨Ae8.2 rfl,.slice la nl lc,rfl,HCI.out⟩⟩
 ·have hkb:=T8 hk;go_wp2_with (go_at_call 173;refine(C4 (p:=p) m1).mono ?_;rintro e w2 ⟨rfl,rfl⟩)
  exact⟨rfl,b0,.inr ⟨fun h=>hk (Ae8.1 h),rfl⟩⟩
theorem Acv{p:Int}{c:A6}(hm:w.cell? ⟨M,1,none⟩=some (.int .i64 p))(hc:Ah w c.v c.ls)(hl:c.ls.length≤1048576)(hw:c.what=1):Calls Tryz.prog 131 #[.pointer (some ⟨M,0,none⟩),.agg #[.int .i64 c.what,.string c.kind,.string c.name,.string c.key,c.v]] w fun e w'=>K4 p c w e w':=by
 obtain⟨what,ck,cn,cy,cv,cl⟩:=c;have hc0:Ah w cv cl:=hc;clear hc;have hl0:cl.length≤1048576:=hl;clear hl;obtain⟨la,lc,rfl⟩:=hc0.1.form;have hw0:what=1:=hw;clear hw;subst hw0;have b0:Below w.heap.size w ((w.alloc (.cells #[.int .i64 1,.string ck,.string cn,.string cy,.slice la cl.length lc] 93)).alloc (.cells #[.string ck,.string cn] 73)):=((Below.refl w.heap.size w).alloc (Nat.le_refl _) _).alloc (by simp) _;have hz:=Di (w:=w) (cs:=#[.int .i64 1,.string ck,.string cn,.string cy,.slice la cl.length lc]) (ds:=#[.string ck,.string cn]) (T:=93) (U:=73);have q0:=hz.1 0;have q1:=hz.1 1;have q2:=hz.1 2;have q3:=hz.1 3;have q4:=hz.1 4;have r0:=hz.2 0;have r1:=hz.2 1;have p0:=Bg (w:=w) (cs:=#[.int .i64 1,.string ck,.string cn,.string cy,.slice la cl.length lc]) (T:=93) 1;have p1:=Bg (w:=w) (cs:=#[.int .i64 1,.string ck,.string cn,.string cy,.slice la cl.length lc]) (T:=93) 2;have hml:=World.block_lt_of_cell? w _ hm;have m1:=(b0.cell hml).trans hm;simp only[List.getElem?_toArray,List.getElem?_cons_zero,List.getElem?_cons_succ]at q0 q1 q2 q3 q4 r0 r1 p0 p1;have HLW:=fun rk=>C3 rk (hc0.below b0) hl0
 have HCI:=Aa (hc0.below b0);clear hz hc0;generalize hnl:cl.length=nl at *;have enl:=Aa hnl;clear hnl;go_enter Tryz.func131,Tryz.ntmps131;clear HLW;by_cases hk:cy=⟨#[]⟩
 ·subst hk;by_cases hn:nl=0
  ·have hcl:cl=[]:=List.length_eq_zero_iff.1 (enl.out.trans hn);have HN:=Aa hcl;clear hcl;subst hn;go_wp2_with (go_at_call 173;refine(Fd M _).mono ?_;rintro e w2 ⟨rfl,rfl⟩)
   refine bodyPost_ret (v:=.iface 182 (.agg #[.string ck,.string cn])) (by simp[results,Tryz.results131,go_sem]) rfl ⟨b0,.inl ⟨Aag.2 ⟨rfl,by rw[HN.out];rfl⟩,.slice la 0 lc,rfl,HCI.out⟩⟩
  ·have HN:=Aa (show cl≠[] from fun e=>hn (by rw[← enl.out,e];rfl));have hn1:(nl == 0)=false:=by simpa using hn
   have hn2:((nl:Int) == 0)=false:=by simpa using hn
   go_wp2_with (go_at_call 173;refine(C4 (p:=p) m1).mono ?_;rintro e w2 ⟨rfl,rfl⟩)
   exact⟨rfl,b0,.inr ⟨fun h=>HN.out (List.map_eq_nil_iff.1 (Aag.1 h).2),rfl⟩⟩
 ·have hkb:=T8 hk;go_wp2_with (go_at_call 173;refine(C4 (p:=p) m1).mono ?_;rintro e w2 ⟨rfl,rfl⟩)
  exact⟨rfl,b0,.inr ⟨fun h=>hk (Aag.1 h).1,rfl⟩⟩
theorem Aaj{p:Int}{c:A6}(hm:w.cell? ⟨M,1,none⟩=some (.int .i64 p))(hc:Ah w c.v c.ls)(hl:c.ls.length≤1048576)(hw:c.what=4):Calls Tryz.prog 131 #[.pointer (some ⟨M,0,none⟩),.agg #[.int .i64 c.what,.string c.kind,.string c.name,.string c.key,c.v]] w fun e w'=>K4 p c w e w':=by
 obtain⟨what,ck,cn,cy,cv,cl⟩:=c;have hc0:Ah w cv cl:=hc;clear hc;have hl0:cl.length≤1048576:=hl;clear hl;obtain⟨la,lc,rfl⟩:=hc0.1.form;have hw0:what=4:=hw;clear hw;subst hw0;have b0:Below w.heap.size w ((w.alloc (.cells #[.int .i64 4,.string ck,.string cn,.string cy,.slice la cl.length lc] 93)).alloc (.cells #[.string ck,.string cn] 73)):=((Below.refl w.heap.size w).alloc (Nat.le_refl _) _).alloc (by simp) _;have hz:=Di (w:=w) (cs:=#[.int .i64 4,.string ck,.string cn,.string cy,.slice la cl.length lc]) (ds:=#[.string ck,.string cn]) (T:=93) (U:=73);have q0:=hz.1 0;have q1:=hz.1 1;have q2:=hz.1 2;have q3:=hz.1 3;have q4:=hz.1 4;have r0:=hz.2 0;have r1:=hz.2 1;have p0:=Bg (w:=w) (cs:=#[.int .i64 4,.string ck,.string cn,.string cy,.slice la cl.length lc]) (T:=93) 1;have p1:=Bg (w:=w) (cs:=#[.int .i64 4,.string ck,.string cn,.string cy,.slice la cl.length lc]) (T:=93) 2;have hml:=World.block_lt_of_cell? w _ hm;have m1:=(b0.cell hml).trans hm;simp only[List.getElem?_toArray,List.getElem?_cons_zero,List.getElem?_cons_succ]at q0 q1 q2 q3 q4 r0 r1 p0 p1;have HLW:=fun rk=>C3 rk (hc0.below b0) hl0
 have HCI:=Aa (hc0.below b0);clear hz hc0;generalize hnl:cl.length=nl at *;have enl:=Aa hnl;clear hnl;go_enter Tryz.func131,Tryz.ntmps131;clear HLW;by_cases hn:nl=0
 ·have hcl:cl=[]:=List.length_eq_zero_iff.1 (enl.out.trans hn);have HN:=Aa hcl;clear hcl;subst hn;go_wp2_with (go_at_call 173;refine(Fd M _).mono ?_;rintro e w2 ⟨rfl,rfl⟩)
  refine bodyPost_ret (v:=.iface 190 (.agg #[.string ck,.string cn,.string cy])) (by simp[results,Tryz.results131,go_sem]) rfl ⟨b0,.inl ⟨Ae9.2 (by rw[HN.out];rfl),.slice la 0 lc,rfl,HCI.out⟩⟩
 ·have HN:=Aa (show cl≠[] from fun e=>hn (by rw[← enl.out,e];rfl));have hn1:(nl == 0)=false:=by simpa using hn
  have hn2:((nl:Int) == 0)=false:=by simpa using hn
  go_wp2_with (go_at_call 173;refine(C4 (p:=p) m1).mono ?_;rintro e w2 ⟨rfl,rfl⟩)
  exact⟨rfl,b0,.inr ⟨fun h=>HN.out (List.map_eq_nil_iff.1 (Ae9.1 h)),rfl⟩⟩
theorem Afb{p:Int}{c:A6}(hm:w.cell? ⟨M,1,none⟩=some (.int .i64 p))(hc:Ah w c.v c.ls)(hl:c.ls.length≤1048576)(hw:c.what=3):Calls Tryz.prog 131 #[.pointer (some ⟨M,0,none⟩),.agg #[.int .i64 c.what,.string c.kind,.string c.name,.string c.key,c.v]] w fun e w'=>K4 p c w e w':=by
 obtain⟨what,ck,cn,cy,cv,cl⟩:=c;have hc0:Ah w cv cl:=hc;clear hc;have hl0:cl.length≤1048576:=hl;clear hl;obtain⟨la,lc,rfl⟩:=hc0.1.form;have hw0:what=3:=hw;clear hw;subst hw0;have b0:Below w.heap.size w ((w.alloc (.cells #[.int .i64 3,.string ck,.string cn,.string cy,.slice la cl.length lc] 93)).alloc (.cells #[.string ck,.string cn] 73)):=((Below.refl w.heap.size w).alloc (Nat.le_refl _) _).alloc (by simp) _;have hz:=Di (w:=w) (cs:=#[.int .i64 3,.string ck,.string cn,.string cy,.slice la cl.length lc]) (ds:=#[.string ck,.string cn]) (T:=93) (U:=73);have q0:=hz.1 0;have q1:=hz.1 1;have q2:=hz.1 2;have q3:=hz.1 3;have q4:=hz.1 4;have r0:=hz.2 0;have r1:=hz.2 1;have p0:=Bg (w:=w) (cs:=#[.int .i64 3,.string ck,.string cn,.string cy,.slice la cl.length lc]) (T:=93) 1;have p1:=Bg (w:=w) (cs:=#[.int .i64 3,.string ck,.string cn,.string cy,.slice la cl.length lc]) (T:=93) 2;have hml:=World.block_lt_of_cell? w _ hm;have m1:=(b0.cell hml).trans hm;simp only[List.getElem?_toArray,List.getElem?_cons_zero,List.getElem?_cons_succ]at q0 q1 q2 q3 q4 r0 r1 p0 p1;have HLW:=fun rk=>C3 rk (hc0.below b0) hl0
 have HCI:=Aa (hc0.below b0);clear hz hc0;generalize hnl:cl.length=nl at *;have enl:=Aa hnl;clear hnl;go_enter Tryz.func131,Tryz.ntmps131;have HK0:=Aa (HLW cy);clear HLW;go_wp2_with (go_at_call 158;refine HK0.out.mono ?_)
 rintro e w2 ⟨v2,rfl,o2,b2⟩;have m2:=(b2.cell (World.block_lt_of_cell? _ _ m1)).trans m1;have x3:=(b2.cell (World.block_lt_of_cell? _ _ q3)).trans q3;have x4:=(b2.cell (World.block_lt_of_cell? _ _ q4)).trans q4;have y0:=(b2.cell (World.block_lt_of_cell? _ _ r0)).trans r0;have y1:=(b2.cell (World.block_lt_of_cell? _ _ r1)).trans r1;have B2:=b0.trans (b2.mono b0.size);have HW:=Aa (show Ah w2 v2 (withKey cl cy) from⟨Bo o2,fun y hy=>(HCI.out.below b2).2 y (List.mem_filter.1 hy).1⟩);have HWL:=Aa (show (withKey cl cy).length≤nl from by rw[← enl.out];exact List.length_filter_le _ _);have HWA:=Aa (@Ye cl cy);have HWM:=Aa (show ∀ y∈withKey cl cy,y.key=cy from fun y hy=>by
  have:=(List.mem_filter.1 hy).2;exact Ad7 (by rw[← ByteArray.toList_eq,← ByteArray.toList_eq];exact of_decide_eq_true (by simpa using this)))
 have HWB:=Aa (show (∀ y∈cl,y.key=cy)→withKey cl cy=cl from fun h=>List.filter_eq_self.2 fun y hy=>by rw[h y hy];exact beq_self_eq_true _);obtain⟨a2,c2,rfl,hfm⟩:=Ai o2;clear o2 b2 hfm HK0 m1 q0 q1 q2 q3 q4 r0 r1 p0 p1 b0 hm hml;generalize hnw:(withKey cl cy).length=nw at *;have ENW:=Aa hnw;clear hnw;have hwl:=HWL.out;by_cases h0:nw=0
 ·have hb0:¬ ((0:Int)<(nw:Int)):=by omega
  have hd0:decide (0<nw)=false:=decide_eq_false (by omega);have HNO:=Aa (show ¬ Hl ⟨3,ck,cn,cy,cl.map LAt.plain⟩ from fun h=>by
   obtain⟨h1,h2⟩:=Aah.1 h;have h3:=HWB.out (fun y hy=>h2 _ (List.mem_map_of_mem hy));have h4:=ENW.out;rw[h3,h0]at h4;exact h1 (by rw[List.length_eq_zero_iff.1 h4];rfl))
  clear h0;go_wp2_with (go_at_call 173;refine(C4 (p:=p) m2).mono ?_;rintro e w2 ⟨rfl,rfl⟩)
  exact⟨rfl,B2,.inr ⟨HNO.out,rfl⟩⟩
 ·have hb0:((0:Int)<(nw:Int)):=by omega
  have hd0:decide (0<nw)=true:=decide_eq_true (by omega);by_cases h1:nw=nl
  ·have h3:=HWA.out (by rw[enl.out];exact h1);have HOKK:=Aa (show Hl ⟨3,ck,cn,cy,cl.map LAt.plain⟩ from Aah.2 ⟨fun e=>h0 (by rw[h1,← enl.out,List.map_eq_nil_iff.1 e];rfl),fun z hz=>by
    obtain⟨y,hy,rfl⟩:=List.mem_map.1 hz;exact HWM.out y (by rw[h3];exact hy)⟩)
   have HW2:=Aa (show Ah w2 (.slice a2 nw c2) cl from by have:=HW.out;rw[h3]at this;exact this);clear h3 h0;have hq1:(nw == nl)=true:=by simpa using h1
   have hq2:((nw:Int) == (nl:Int))=true:=by rw[h1];exact beq_self_eq_true _
   clear h1;go_wp2_with (go_at_call 173;refine(Fd M _).mono ?_;rintro e w2 ⟨rfl,rfl⟩)
   refine bodyPost_ret (v:=.iface 188 (.agg #[.string ck,.string cn,.string cy,.slice a2 nw c2])) (by simp[results,Tryz.results131,go_sem]) rfl ⟨B2,.inl ⟨HOKK.out,.slice a2 nw c2,rfl,HW2.out⟩⟩
  ·have HNO:=Aa (show ¬ Hl ⟨3,ck,cn,cy,cl.map LAt.plain⟩ from fun h=>by
    obtain⟨_,h2⟩:=Aah.1 h;have h3:=HWB.out (fun y hy=>h2 _ (List.mem_map_of_mem hy));have h4:=ENW.out;rw[h3,enl.out]at h4;exact h1 h4.symm)
   have hq1:(nw == nl)=false:=by simpa using h1
   have hq2:((nw:Int) == (nl:Int))=false:=beq_eq_false_iff_ne.2 (fun e=>h1 (by omega));go_wp2_with (go_at_call 173;refine(C4 (p:=p) m2).mono ?_;rintro e w2 ⟨rfl,rfl⟩)
   exact⟨rfl,B2,.inr ⟨HNO.out,rfl⟩⟩
theorem Afc{p:Int}{c:A6}(hm:w.cell? ⟨M,1,none⟩=some (.int .i64 p))(hc:Ah w c.v c.ls)(hl:c.ls.length≤1048576):Calls Tryz.prog 131 #[.pointer (some ⟨M,0,none⟩),.agg #[.int .i64 c.what,.string c.kind,.string c.name,.string c.key,c.v]] w fun e w'=>K4 p c w e w':=by
 by_cases h1:c.what=1
 ·exact Acv hm hc hl h1
 by_cases h2:c.what=2
 ·exact Afa hm hc hl h2
 by_cases h3:c.what=3
 ·exact Afb hm hc hl h3
 by_cases h4:c.what=4
 ·exact Aaj hm hc hl h4
 exact Aai hm hc hl h1 h2 h3 h4
variable {lv:Value}
theorem Rs{cs:List A6}(hbs:Aw w v bs)(hsm:A2 bs)(hcs:Dj w lv cs)(hcl:cs.length≤1048576)(hcm:∀ c∈cs,c.name.size≤1048576∧Ae c.ls)(htot:Ra (cs.map A6.plain)≤1048576)(hbud:∀ b∈bs,b.ls.length+Ra (cs.map A6.plain)≤1048576):Calls Tryz.prog 38 #[.agg #[v],lv] w fun e w'=>Nu (applyS (bs.map BAt.plain) (cs.map A6.plain)) w e w':=by
 obtain⟨va,vc,rfl⟩:=hbs.1.form;obtain⟨la,lc,rfl⟩:=hcs.1.form;have G:Below w.heap.size w ((w.alloc (.cells #[.slice va bs.length vc] 25)).alloc (.cells #[.slice none 0 0] 25)):=((Below.refl w.heap.size w).alloc (Nat.le_refl _) _).alloc (by simp) _;have hz:((w.alloc (.cells #[.slice va bs.length vc] 25)).alloc (.cells #[.slice none 0 0] 25)).heap.size=w.heap.size+2:=by simp
 have y0:Ar ((w.alloc (.cells #[.slice va bs.length vc] 25)).alloc (.cells #[.slice none 0 0] 25)) w.heap.size #[.slice va bs.length vc] 25:=by
  show ((w.alloc _).alloc _).heap[w.heap.size]?=_
  rw[Cy _ _ _ (by simp),Al]
 have y1:Ar ((w.alloc (.cells #[.slice va bs.length vc] 25)).alloc (.cells #[.slice none 0 0] 25)) (w.heap.size+1) #[.slice none 0 0] 25:=by
  have:=Al (w.alloc (.cells #[.slice va bs.length vc] 25)) (.cells #[.slice none 0 0] 25);simpa [Ar] using this
 have HV:=C6 (hbs.below G) hsm;have HB:=Aa (hbs.below G);have HSM:=Aa hsm;have HCS:=Aa hcs;have HCM:=Aa hcm;have HBUD:=Aa hbud;have HTOT:=Aa htot;obtain⟨R,hR⟩:∃ R,applyS (bs.map BAt.plain) (cs.map A6.plain)=R:=⟨_,rfl⟩;have HRR:=Aa hR;rw[hR];clear hR hbs hsm hcs hcm hbud htot;generalize hVB:Ca (bs.map BAt.plain)=VB at *;have EVB:=Aa hVB;clear hVB;generalize hnb:bs.length=nb at *;have enb:=Aa hnb;clear hnb;generalize hnl:cs.length=nl at *;have enl:=Aa hnl;clear hnl;generalize hW0:(w.alloc (.cells #[.slice va nb vc] 25)).alloc (.cells #[.slice none 0 0] 25)=W0 at *;have EW:=Aa hW0;have HSZ:=Aa hz;clear hW0 hz;have s0:=Ab y0 0;simp only[List.getElem?_toArray,List.getElem?_cons_zero]at s0;go_enter Tryz.func38,Tryz.ntmps38;go_upto_region 1 with fail
 rw[EW.out];clear EW;go_wp2_with (go_at_call 14;refine HV.mono ?_)
 first | rintro e w1 rfl b1 | rintro e w1 ⟨rfl,b1⟩
 have c1:=(b1.cell (World.block_lt_of_cell? W0 _ s0)).trans s0;have z1:=y1.below b1;have hsz1:=b1.size;rw[HSZ.out]at hsz1;have g1:=G.trans (b1.mono G.size);have HB1:=Aa (HB.out.below b1);clear HV s0 y0 y1 b1 G HB;cases VB
 ·have HG:=Aa (show R=([],1) from by rw[← HRR.out];unfold applyS;rw[if_neg (by rw[EVB.out];simp)]);have r9:w1.heap[w.heap.size+1]?=some (.cells #[.slice none 0 0] 25 (0,0)):=z1;go_wp2_with (with_reducible show wpList _ _ _ (Oper.mk _ (Op.store _ (Operand.tmp 4) _) _ _ _ _::_) _ _;refine wpList_store_row rfl 25 _ _ rfl (w.heap.size+1) #[.slice none 0 0] ?_ ?_ 25 _ r9 ?_ ?_ ?_ ?_)
  all_goals (first | rfl | kernel_rfl | exact A7 | skip)
  have z5:(w1.setRow (w.heap.size+1) #[.slice none 0 0]).heap[w.heap.size+1]?=some (.cells #[.slice none 0 0] 25 (0,0)):=setRow_heap _ _ _ _ _ _ z1;have b5:Below w.heap.size w (w1.setRow (w.heap.size+1) #[.slice none 0 0]):=⟨g1.os,g1.tape,g1.output,by rw[setRow_size];exact g1.size,fun k hk=>by rw[setRow_other _ _ _ _ (by omega)];exact g1.block k hk⟩;have y5:=Ab z5 0;simp only[List.getElem?_toArray,List.getElem?_cons_zero]at y5;generalize w1.setRow (w.heap.size+1) #[.slice none 0 0]=W at b5 y5 z5 ⊢;exact bodyPost_ret (v:=.tuple #[.agg #[.slice none 0 0],.int .i64 1]) (by simp[results,Tryz.results38,go_sem,y5]) rfl ⟨_,[],by rw[HG.out],by rw[HG.out];rfl,Fx _ _,b5⟩
 ·have HC:=Gq HB1.out HSM.out;have HOK:=Aa (show Ax (bs.map BAt.plain) from Bh.1 EVB.out);go_wp2_with (go_at_call 55;refine HC.mono ?_;rintro e w2 ⟨v2,bs2,rfl,hp2,o2,b2⟩;obtain⟨a2,c2,rfl,hform⟩:=Ai o2.row)
  have x3:Below w2.heap.size w2 (w2.alloc (.cells #[.slice a2 bs2.length c2] 25)):=(Below.refl _ _).alloc (Nat.le_refl _) _;have hsz2:=b2.size;have g2:=g1.trans (b2.mono g1.size);have g3:=g2.trans (x3.mono g2.size);have zR3:=(z1.below b2).below x3;have zX3:=Ar.new w2 #[.slice a2 bs2.length c2] 25;have HBR:=Aa ((o2.brow.mono (show w.heap.size+2≤w1.heap.size from hsz1)).below x3);have HP2:=Aa hp2;have hXz:w.heap.size+2≤w2.heap.size:=by omega
  clear HC hp2 o2 b2 hform c1 z1 x3 HB1 g1 g2;generalize bs2.length=n2 at *;generalize w2.alloc (.cells #[.slice a2 n2 c2] 25)=w3 at *;generalize w2.heap.size=X at *;have HG0:=Aa (show Ea 0 (bs.map BAt.plain) (cs.map A6.plain)=R from by rw[← HRR.out];unfold applyS;rw[if_pos EVB.out]);go_loopw [7] (fun i wr=>ApJ w X cs R i wr) (fun i _=>nl - (intOf i).toNat)
  case atStart =>
   exact⟨0,a2,n2,c2,bs2,rfl,Nat.zero_le _,g3,zR3,zX3,HBR.out,by rw[HP2.out];exact HOK.out,by rw[HP2.out,List.drop_zero];exact HG0.out,by rw[List.drop_zero];exact HTOT.out,by rw[List.drop_zero];exact Fz.2 (by rw[HP2.out];exact Fz.1 HBUD.out)⟩
  case round =>
   clear HBR g3 zR3 zX3 HG0;obtain⟨k,a,n,c,bsk,rfl,hkn,hb,zR,zX,hbr,hok,hgo,htot,hbud⟩:=hrel;have hXk:=zX.lt;have hbz:=hb.size;by_cases hlt:k<nl
   ·have hlt':((k:Int)<(nl:Int)):=by omega
    have hk0:(0:Int)≤(k:Int):=by omega
    obtain⟨E,x,F,ecs,hE⟩:=Br cs k (by rw[enl.out];exact hlt);obtain⟨ew,ek,en,ey,ev,els⟩:=x;have hxm:(⟨ew,ek,en,ey,ev,els⟩:A6)∈cs:=by rw[ecs];simp
    have hxin:Ah w ev els:=HCS.out.2 _ hxm;obtain⟨ea,ec,rfl⟩:=hxin.1.form;obtain⟨lg,loff,rfl,d0,d1,d2,d3,d4⟩:=(show An w (.slice la nl lc) nl 5 ((E++(⟨ew,ek,en,ey,.slice ea els.length ec,els⟩:A6)::F).flatMap A6.cells) from by have:=HCS.out.1;rw[enl.out,ecs]at this;exact this).change;rw[hE]at d0 d1 d2 d3 d4;have hlg:lg<w.heap.size:=World.block_lt_of_cell? w _ d0;have e0:=(hb.cell (World.block_lt_of_cell? w _ d0)).trans d0;have e1:=(hb.cell (World.block_lt_of_cell? w _ d1)).trans d1;have e2:=(hb.cell (World.block_lt_of_cell? w _ d2)).trans d2;have e3:=(hb.cell (World.block_lt_of_cell? w _ d3)).trans d3;have e4:=(hb.cell (World.block_lt_of_cell? w _ d4)).trans d4;have x0:=Ab zX 0;simp only[List.getElem?_toArray,List.getElem?_cons_zero]at x0;have hdk:cs.drop k=(⟨ew,ek,en,ey,.slice ea els.length ec,els⟩:A6)::F:=by rw[ecs,← hE,List.drop_left]
    have hdk1:cs.drop (k+1)=F:=by rw[ecs,show k+1=(E++[(⟨ew,ek,en,ey,.slice ea els.length ec,els⟩:A6)]).length by simp[hE],show E++(⟨ew,ek,en,ey,.slice ea els.length ec,els⟩:A6)::F=(E++[⟨ew,ek,en,ey,.slice ea els.length ec,els⟩])++F by simp,List.drop_left]
    rw[hdk]at hgo htot hbud;rw[List.map_cons,Mp]at hgo;rw[List.map_cons,Qq]at htot hbud;have hlc:els.length=(A6.plain ⟨ew,ek,en,ey,.slice ea els.length ec,els⟩).lines.length:=by unfold A6.plain;simp
    have HONE:∀ W,Below wr.heap.size wr W→Calls Tryz.prog 99 #[.agg #[.slice a n c],.agg #[.int .i64 ew,.string ek,.string en,.string ey,.slice ea els.length ec]] W fun e w'=>Eb (w.heap.size+2) (.slice a n c) (oneS (bsk.map BAt.plain) (A6.plain ⟨ew,ek,en,ey,.slice ea els.length ec,els⟩)) W e w':=fun W hW=>Acf (c:=⟨ew,ek,en,ey,.slice ea els.length ec,els⟩) (by have:=hW.size;omega) (hbr.below hW) hok (hxin.below (hb.trans (hW.mono hb.size))) (fun q hq=>Fc hxin (by omega)) (HCM.out _ hxm).2 (HCM.out _ hxm).1 (fun b hb=>by have h1:=hbud b hb;rw[← hlc]at h1;show b.ls.length+els.length≤_;omega)
    have HOKO:=Aa (fun A' (h:oneS (bsk.map BAt.plain) (A6.plain ⟨ew,ek,en,ey,.slice ea els.length ec,els⟩)=some A')=>Tb hok h);have HBO:=Aa (fun A' (h:oneS (bsk.map BAt.plain) (A6.plain ⟨ew,ek,en,ey,.slice ea els.length ec,els⟩)=some A')=>Xj h htot (Fz.1 hbud));have HTF:=Aa (show Ra (F.map A6.plain)≤1048576 from by omega);generalize oneS (bsk.map BAt.plain) (A6.plain ⟨ew,ek,en,ey,.slice ea els.length ec,els⟩)=O at *;have HGO:=Aa hgo;have HDK:=Aa hdk1;have HZN:=Aa (Hu zX hbr.row (by decide));have HBRK:=Aa hbr;clear hgo hdk hdk1 htot hbud hlc hok hxin hxm ecs hE hbr d0 d1 d2 d3 d4;generalize els.length=el at *;have HKS:=Aa (show ∀ u,Below (w.heap.size+2) wr u→Cs (.slice a n c) wr u→u.cell? ⟨X,0,none⟩=some (.slice a n c)∧u.cell? ⟨lg,loff+k * 5,none⟩=some (.int .i64 ew)∧u.cell? ⟨lg,loff+k * 5+1,none⟩=some (.string ek)∧u.cell? ⟨lg,loff+k * 5+2,none⟩=some (.string en)∧u.cell? ⟨lg,loff+k * 5+3,none⟩=some (.string ey)∧u.cell? ⟨lg,loff+k * 5+4,none⟩=some (.slice ea el ec) from fun u hu hk=>⟨Ab (show Ar u X #[.slice a n c] 25 from(hk X hXk HZN.out).trans zX) 0,(hu.cell (p:=⟨lg,loff+k * 5,none⟩) (show lg<w.heap.size+2 by omega)).trans e0,(hu.cell (p:=⟨lg,loff+k * 5+1,none⟩) (show lg<w.heap.size+2 by omega)).trans e1,(hu.cell (p:=⟨lg,loff+k * 5+2,none⟩) (show lg<w.heap.size+2 by omega)).trans e2,(hu.cell (p:=⟨lg,loff+k * 5+3,none⟩) (show lg<w.heap.size+2 by omega)).trans e3,(hu.cell (p:=⟨lg,loff+k * 5+4,none⟩) (show lg<w.heap.size+2 by omega)).trans e4⟩);have t0:∀ p:{ W:World // W.cell? ⟨X,0,none⟩=some (.slice a n c)∧W.cell? ⟨lg,loff+k * 5,none⟩=some (.int .i64 ew)∧W.cell? ⟨lg,loff+k * 5+1,none⟩=some (.string ek)∧W.cell? ⟨lg,loff+k * 5+2,none⟩=some (.string en)∧W.cell? ⟨lg,loff+k * 5+3,none⟩=some (.string ey)∧W.cell? ⟨lg,loff+k * 5+4,none⟩=some (.slice ea el ec) },p.1.cell? ⟨X,0,none⟩=some (.slice a n c):=fun p=>p.2.1
    have t1:∀ p:{ W:World // W.cell? ⟨X,0,none⟩=some (.slice a n c)∧W.cell? ⟨lg,loff+k * 5,none⟩=some (.int .i64 ew)∧W.cell? ⟨lg,loff+k * 5+1,none⟩=some (.string ek)∧W.cell? ⟨lg,loff+k * 5+2,none⟩=some (.string en)∧W.cell? ⟨lg,loff+k * 5+3,none⟩=some (.string ey)∧W.cell? ⟨lg,loff+k * 5+4,none⟩=some (.slice ea el ec) },p.1.cell? ⟨lg,loff+k * 5,none⟩=some (.int .i64 ew):=fun p=>p.2.2.1
    have t2:∀ p:{ W:World // W.cell? ⟨X,0,none⟩=some (.slice a n c)∧W.cell? ⟨lg,loff+k * 5,none⟩=some (.int .i64 ew)∧W.cell? ⟨lg,loff+k * 5+1,none⟩=some (.string ek)∧W.cell? ⟨lg,loff+k * 5+2,none⟩=some (.string en)∧W.cell? ⟨lg,loff+k * 5+3,none⟩=some (.string ey)∧W.cell? ⟨lg,loff+k * 5+4,none⟩=some (.slice ea el ec) },p.1.cell? ⟨lg,loff+k * 5+1,none⟩=some (.string ek):=fun p=>p.2.2.2.1
    have t3:∀ p:{ W:World // W.cell? ⟨X,0,none⟩=some (.slice a n c)∧W.cell? ⟨lg,loff+k * 5,none⟩=some (.int .i64 ew)∧W.cell? ⟨lg,loff+k * 5+1,none⟩=some (.string ek)∧W.cell? ⟨lg,loff+k * 5+2,none⟩=some (.string en)∧W.cell? ⟨lg,loff+k * 5+3,none⟩=some (.string ey)∧W.cell? ⟨lg,loff+k * 5+4,none⟩=some (.slice ea el ec) },p.1.cell? ⟨lg,loff+k * 5+2,none⟩=some (.string en):=fun p=>p.2.2.2.2.1
    have t4:∀ p:{ W:World // W.cell? ⟨X,0,none⟩=some (.slice a n c)∧W.cell? ⟨lg,loff+k * 5,none⟩=some (.int .i64 ew)∧W.cell? ⟨lg,loff+k * 5+1,none⟩=some (.string ek)∧W.cell? ⟨lg,loff+k * 5+2,none⟩=some (.string en)∧W.cell? ⟨lg,loff+k * 5+3,none⟩=some (.string ey)∧W.cell? ⟨lg,loff+k * 5+4,none⟩=some (.slice ea el ec) },p.1.cell? ⟨lg,loff+k * 5+3,none⟩=some (.string ey):=fun p=>p.2.2.2.2.2.1
    have t5:∀ p:{ W:World // W.cell? ⟨X,0,none⟩=some (.slice a n c)∧W.cell? ⟨lg,loff+k * 5,none⟩=some (.int .i64 ew)∧W.cell? ⟨lg,loff+k * 5+1,none⟩=some (.string ek)∧W.cell? ⟨lg,loff+k * 5+2,none⟩=some (.string en)∧W.cell? ⟨lg,loff+k * 5+3,none⟩=some (.string ey)∧W.cell? ⟨lg,loff+k * 5+4,none⟩=some (.slice ea el ec) },p.1.cell? ⟨lg,loff+k * 5+4,none⟩=some (.slice ea el ec):=fun p=>p.2.2.2.2.2.2
    letI I0:Inhabited { W:World // W.cell? ⟨X,0,none⟩=some (.slice a n c)∧W.cell? ⟨lg,loff+k * 5,none⟩=some (.int .i64 ew)∧W.cell? ⟨lg,loff+k * 5+1,none⟩=some (.string ek)∧W.cell? ⟨lg,loff+k * 5+2,none⟩=some (.string en)∧W.cell? ⟨lg,loff+k * 5+3,none⟩=some (.string ey)∧W.cell? ⟨lg,loff+k * 5+4,none⟩=some (.slice ea el ec) }:=⟨⟨wr,x0,e0,e1,e2,e3,e4⟩⟩;go_upto_region 7 with fail
    refine A0 (S:=fun W=>W.cell? ⟨X,0,none⟩=some (.slice a n c)∧W.cell? ⟨lg,loff+k * 5,none⟩=some (.int .i64 ew)∧W.cell? ⟨lg,loff+k * 5+1,none⟩=some (.string ek)∧W.cell? ⟨lg,loff+k * 5+2,none⟩=some (.string en)∧W.cell? ⟨lg,loff+k * 5+3,none⟩=some (.string ey)∧W.cell? ⟨lg,loff+k * 5+4,none⟩=some (.slice ea el ec)) 11 12 (by kernel_rfl) rfl ?_;refine Ay [true,true,true,true,true,false,false,false,false,false,false,false] 7 rfl (by kernel_rfl) ⟨x0,e0,e1,e2,e3,e4⟩ ?_;simp only[Ba,Bb,A9];iterate 5 (refine Ak (fun K hK=>?_);go_simp;refine hK _ ?_;clear hK K)
    refine Ao ?_;clear t0 t1 t2 t3 t4 t5;refine Ac (f:=6) (rs:=[5,9]) (by kernel_rfl) (by simp) ?_;refine Ad.cons rfl (by decide) (fun K hK=>?wayA) (Ad.cons rfl (by decide) (fun K hK=>?wayB) Ad.nil);case' wayA =>
     go_simp;have Bd:Below wr.heap.size wr wr.drew:=(Below.refl _ _).drew;go_wp2_with (go_at_call 99;refine(HONE _ Bd).mono ?_;intro e u1 hpost;obtain⟨a',n',c',ok,rfl,f1,f2,f3⟩:=Aa4 hpost)
     have b1:Below (w.heap.size+2) wr u1:=(Bd.mono (by omega)).trans f1;have k1:Cs (.slice a n c) wr u1:=fun q hq hn=>f2 q hq hn
     refine hK.out _ _ (HKS.out _ b1 k1) ?_;clear hK K hpost;refine Ay [false,false,false,false,false,false,true,true,true,false,false,false] 3 rfl (by kernel_rfl) (HKS.out _ b1 k1) ?_;simp only[Ba,Bb,A9];iterate 3 (refine Ak (fun K hK=>?_);go_simp;refine hK _ ?_;clear hK K)
     refine Ao ?_;refine Ac (f:=2) (rs:=[9]) (by kernel_rfl) (by simp) ?_;refine Ad.cons rfl (by decide) (fun K hK=>?_) Ad.nil;go_simp;have bY:=(Below.refl u1.heap.size u1).alloc (Nat.le_refl _) (.cells #[.slice none 0 0] 25);have zY:=Ar.new u1 #[.slice none 0 0] 25;have h1z:=b1.size;have b2:=b1.trans (bY.mono (by omega));have k2:=k1.then h1z bY;refine hK.out _ _ (HKS.out _ b2 k2) ?_;clear hK K;have HF:=Aa (f3.below bY);have hYz:w.heap.size+2≤u1.heap.size:=by omega
     have hYX:X≠u1.heap.size:=by omega
     clear f1 f2 f3 b1 k1 bY Bd h1z;generalize u1.alloc (.cells #[.slice none 0 0] 25)=UY at *;generalize u1.heap.size=Y at *
    case' wayB =>
     go_simp;have bY:Below wr.heap.size wr (wr.alloc (.cells #[.slice none 0 0] 25)).drew:=((Below.refl wr.heap.size wr).alloc (Nat.le_refl _) (.cells #[.slice none 0 0] 25)).drew;have zY0:Ar (wr.alloc (.cells #[.slice none 0 0] 25)).drew wr.heap.size #[.slice none 0 0] 25:=Ar.new wr _ _;refine hK.out _ _ (HKS.out _ (bY.mono (by omega)) (Cs.of_below bY)) ?_;clear hK K;refine Ac (f:=5) (rs:=[5]) (by kernel_rfl) (by simp) ?_;refine Ad.cons rfl (by decide) (fun K hK=>?_) Ad.nil;go_simp;go_wp2_with (go_at_call 99;refine(HONE _ bY).mono ?_;intro e UY hpost;obtain⟨a',n',c',ok,rfl,f1,f2,f3⟩:=Aa4 hpost)
     have b2:Below (w.heap.size+2) wr UY:=(bY.mono (by omega)).trans f1;have k2:Cs (.slice a n c) wr UY:=fun q hq hn=>(f2 q (Nat.lt_of_lt_of_le hq bY.size) hn).trans (bY.block q hq)
     refine hK.out _ _ (HKS.out _ b2 k2) ?_;clear hK K hpost;refine Ay [false,false,false,false,false,false,true,true,true,false,false,false] 2 rfl (by kernel_rfl) (HKS.out _ b2 k2) ?_;simp only[Ba,Bb,A9];iterate 3 (refine Ak (fun K hK=>?_);go_simp;refine hK _ ?_;clear hK K)
     refine Ao ?_;have zY:Ar UY wr.heap.size #[.slice none 0 0] 25:=(f2 wr.heap.size zY0.lt (Hu zY0 (HBRK.out.below bY).row (by decide))).trans zY0;have HF:=Aa f3;have hYz:w.heap.size+2≤wr.heap.size:=by omega
     have hYX:X≠wr.heap.size:=by omega
     have EY:∃ Y,wr.heap.size=Y:=⟨_,rfl⟩;obtain⟨Y,hY⟩:=EY;rw[hY]at zY hYz hYX ⊢;clear f1 f2 f3 bY zY0 hY
    all_goals
     refine Ac (f:=1) (rs:=[10]) (by kernel_rfl) (by simp) ?_;refine Ad.cons rfl (by decide) (fun K hK=>?_) Ad.nil;rw[if_pos (by rfl)];refine wp_store_row 25 _ _ rfl Y #[.slice a' n' c'] rfl rfl 25 _ zY (by kernel_rfl) rfl (by first | rfl | kernel_rfl) ?_
     have gz:=Bx UY Y #[.slice a' n' c'];have b3:=Bu b2 (by have:=b2.size;omega) hYz gz;have zX2:Ar UY X #[.slice a n c] 25:=(k2 X hXk HZN.out).trans zX;have zX3:=zX2.grown gz hYX;have zR3:=(show Ar UY (w.heap.size+1) #[.slice none 0 0] 25 from(b2.block _ (by omega)).trans zR).grown gz (by omega);have zY3:Ar (UY.setRow Y #[.slice a' n' c']) Y #[.slice a' n' c'] 25:=setRow_heap _ _ _ _ _ _ zY;have HF3:=Aa (show Xi (w.heap.size+2) O (.slice a' n' c') ok (UY.setRow Y #[.slice a' n' c']) from by
      rcases HF.out with h | ⟨A,bs',h1,h2,h3,h4⟩
      ·exact .inl h
      ·exact .inr ⟨A,bs',h1,h2,h3,Ij h4 gz (Hu zY h4.row (by decide)) (fun y hy=>Sp zY (h4.2 y hy).1)⟩)
     have x9:=Ab zX3 0;simp only[List.getElem?_toArray,List.getElem?_cons_zero]at x9;refine hK.out _ _ ⟨x9,(b3.cell (p:=⟨lg,loff+k * 5,none⟩) (show lg<w.heap.size+2 by omega)).trans e0,(b3.cell (p:=⟨lg,loff+k * 5+1,none⟩) (show lg<w.heap.size+2 by omega)).trans e1,(b3.cell (p:=⟨lg,loff+k * 5+2,none⟩) (show lg<w.heap.size+2 by omega)).trans e2,(b3.cell (p:=⟨lg,loff+k * 5+3,none⟩) (show lg<w.heap.size+2 by omega)).trans e3,(b3.cell (p:=⟨lg,loff+k * 5+4,none⟩) (show lg<w.heap.size+2 by omega)).trans e4⟩ ?_;clear hK K gz zX2 HF HKS I0 HONE x9;generalize UY.setRow Y #[.slice a' n' c']=WZ at *;refine A5 (by kernel_rfl) rfl (by kernel_rfl) ?_;intro K hK;go_simp;refine hK.out _ _ (NoPanic.normal ?_);clear hK K zY zX zR x0 e0 e1 e2 e3 e4 HZN b2 k2;have hz3:=b3.size;have BW:Below w.heap.size w WZ:=hb.trans (b3.mono (by omega));have y9:=Ab zY3 0;simp only[List.getElem?_toArray,List.getElem?_cons_zero]at y9;rcases HF3.out with ⟨hO,rfl⟩ | ⟨A,bs',hO,rfl,hpl,hbr'⟩
     ·have HG:=Aa (show R=([],2+(k:Int)) from by rw[← HGO.out,hO]);clear hO HF3 HGO HOKO HBO;have r9:WZ.heap[w.heap.size+1]?=some (.cells #[.slice none 0 0] 25 (0,0)):=zR3;have b9:Below w.heap.size w (WZ.setRow (w.heap.size+1) #[.slice none 0 0]):=⟨BW.os,BW.tape,BW.output,by rw[setRow_size];exact BW.size,fun q hq=>by rw[setRow_other _ _ _ _ (by omega)];exact BW.block q hq⟩;go_wp2_with (with_reducible show wpList _ _ _ (Oper.mk _ (Op.store _ (Operand.tmp 4) _) _ _ _ _::_) _ _;refine wpList_store_row rfl 25 _ _ rfl (w.heap.size+1) #[.slice none 0 0] ?_ ?_ 25 _ r9 ?_ ?_ ?_ ?_)
      ·rfl
      ·rfl
      ·first | rfl | kernel_rfl | exact A7
      ·rfl
      ·first | rfl | kernel_rfl
      have z9:(WZ.setRow (w.heap.size+1) #[.slice none 0 0]).heap[w.heap.size+1]?=some (.cells #[.slice none 0 0] 25 (0,0)):=setRow_heap _ _ _ _ _ _ r9;have v9:=Ab z9 0;simp only[List.getElem?_toArray,List.getElem?_cons_zero]at v9;generalize WZ.setRow (w.heap.size+1) #[.slice none 0 0]=W9 at b9 v9 z9 ⊢;exact bodyPost_ret (v:=.tuple #[.agg #[.slice none 0 0],.int .i64 (2+(k:Int))]) (by simp[results,Tryz.results38,go_sem,v9]) rfl ⟨_,[],by rw[HG.out],by rw[HG.out];rfl,Fx _ _,b9⟩
     ·have HG:=Aa (show Ea (k+1) A (F.map A6.plain)=R from by have:=HGO.out;rw[hO]at this;exact this);have HOK9:=Aa (HOKO.out A hO);have HB9:=Aa (HBO.out A hO);have HPL:=Aa hpl;have gx:=Bx WZ X #[.slice a' n' c'];have HJ:=Aa (show ApJ w X cs R (.int .i64 ((k+1:Nat):Int)) (WZ.setRow X #[.slice a' n' c']) from⟨k+1,a',n',c',bs',rfl,by rw[enl.out];omega,Bu BW BW.size (by omega) gx,zR3.grown gx (by omega),setRow_heap _ _ _ _ _ _ zX3,Ij hbr' gx (Hu zX3 hbr'.row (by decide)) (fun y hy=>Sp zX3 (hbr'.2 y hy).1),by rw[HPL.out];exact HOK9.out,by rw[HPL.out,HDK.out];exact HG.out,by rw[HDK.out];exact HTF.out,by rw[HDK.out];exact Fz.2 (by rw[HPL.out];exact HB9.out)⟩);have r9:WZ.heap[X]?=some (.cells #[.slice a n c] 25 (0,0)):=zX3;clear hO HF3 HGO HOKO HBO hpl hbr' HG HOK9 HB9 HPL gx;go_wp2_with (with_reducible show wpList _ _ _ (Oper.mk _ (Op.store _ (Operand.tmp 6) _) _ _ _ _::_) _ _;refine wpList_store_row rfl 25 _ _ rfl X #[.slice a' n' c'] ?_ ?_ 25 _ r9 ?_ ?_ ?_ ?_)
      ·rfl
      ·rfl
      ·first | rfl | kernel_rfl | exact A7
      ·rfl
      ·first | rfl | kernel_rfl
      generalize WZ.setRow X #[.slice a' n' c']=W9 at *;try go_wp2
      go_roundw;case rel=>exact HJ.out
      case measure=>simp[intOf];omega
   ·have hlt':¬ ((k:Int)<(nl:Int)):=by omega
    have x0:=Ab zX 0;simp only[List.getElem?_toArray,List.getElem?_cons_zero]at x0;have HG:=Aa (show R=(bsk.map BAt.plain,0) from by rw[← hgo,List.drop_of_length_le (by rw[enl.out];omega)];rfl);have HC:=Gq hbr.bin (E3 hok);clear hgo htot hbud;go_wp2_with (go_at_call 55;refine HC.mono ?_)
    first | rintro e w5 v5 rfl bs5 hp5 o5 b5 | rintro e w5 v5 bs5 rfl hp5 o5 b5 | rintro e w5 ⟨v5,bs5,rfl,hp5,o5,b5⟩
    obtain⟨a5,c5,rfl,hform⟩:=Ai o5.row;have z5:=zR.below b5;have BW:=hb.trans (b5.mono hb.size);have HP5:=Aa hp5;have HO5:=Aa o5;clear hp5 o5 b5 hform HC hok hbr zX x0;generalize bs5.length=n5 at *;have r9:w5.heap[w.heap.size+1]?=some (.cells #[.slice none 0 0] 25 (0,0)):=z5;have b9:Below w.heap.size w (w5.setRow (w.heap.size+1) #[.slice a5 n5 c5]):=⟨BW.os,BW.tape,BW.output,by rw[setRow_size];exact BW.size,fun q hq=>by rw[setRow_other _ _ _ _ (by omega)];exact BW.block q hq⟩;go_wp2_with (with_reducible show wpList _ _ _ (Oper.mk _ (Op.store _ (Operand.tmp 4) _) _ _ _ _::_) _ _;refine wpList_store_row rfl 25 _ _ rfl (w.heap.size+1) #[.slice a5 n5 c5] ?_ ?_ 25 _ r9 ?_ ?_ ?_ ?_)
    ·rfl
    ·rfl
    ·first | rfl | kernel_rfl | exact A7
    ·rfl
    ·first | rfl | kernel_rfl
    have z9:(w5.setRow (w.heap.size+1) #[.slice a5 n5 c5]).heap[w.heap.size+1]?=some (.cells #[.slice a5 n5 c5] 25 (0,0)):=setRow_heap _ _ _ _ _ _ r9;have v9:=Ab z9 0;simp only[List.getElem?_toArray,List.getElem?_cons_zero]at v9;have O9:=Aa ((HO5.out.setRow (w.heap.size+1) (by omega) #[.slice a5 n5 c5]).mono (show w.heap.size≤wr.heap.size from hbz));generalize w5.setRow (w.heap.size+1) #[.slice a5 n5 c5]=W9 at *;exact bodyPost_ret (v:=.tuple #[.agg #[.slice a5 n5 c5],.int .i64 0]) (by simp[results,Tryz.results38,go_sem,v9]) rfl ⟨_,bs5,by rw[HG.out],by rw[HG.out];exact HP5.out,O9.out,b9⟩
end Go.Proofs.YtpdahhnjhggocaaGreatDoor
