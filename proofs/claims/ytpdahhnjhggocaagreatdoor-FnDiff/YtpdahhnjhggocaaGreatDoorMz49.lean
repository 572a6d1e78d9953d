import Derived.Test.YtpdahhnjhggocaaGreatDoorMz41
import Derived.Test.YtpdahhnjhggocaaGreatDoorMz47
namespace Go.Proofs.YtpdahhnjhggocaaGreatDoor
open Go.RowKit
set_option maxHeartbeats 16000000
set_option maxRecDepth 100000
variable {b:PBlock}{A TA:List PBlock}{az bs:List BAt}{W w W':World}{X n B p k c g:Nat}{cs:Array Value}{v av v':Value}{xs:List Value}{L:List MRow}{α:Type}
theorem Ae2(k:Nat):∀ cs:List PChange,(∀ c∈cs,c.lines.length≤k)→Ra cs≤k * cs.length
 | [],_=>by simp[Ra]
 | c::cs,h=>by
  rw[Qq,List.length_cons,Nat.mul_succ];have h1:=h c (by simp);have h2:=Ae2 k cs (fun d hd=>h d (by simp[hd]));omega
theorem Qv{B:List PBlock}(h:Ax B)(hb:b∈B):b.lines.length≤120:=by
 have h1:=(h.2.1 b hb).2.2.few;have h2:=(C5 b.kind).1;omega
theorem Acs{B:List PBlock}{c:PChange}(hc:c∈diffS A B):c.lines.length≤120∧(∃ b,(b∈A∨b∈B)∧c.name=b.name)∧∀ b∈A,b.lines.length≤120:=by
 unfold diffS at hc;split at hc
 ·rename_i h;have hB:=Bh.1 h.2;have hA:∀ b∈A,b.lines.length≤120:=fun b hb=>Qv (Bh.1 h.1) hb
  rcases List.mem_append.1 hc with hc | hc
  ·obtain⟨a,ha,rfl⟩:=List.mem_map.1 hc;exact⟨by simp[Hm],⟨a,.inl (List.mem_filter.1 ha).1,rfl⟩,hA⟩
  ·obtain⟨y,hy,hc⟩:=List.mem_flatMap.1 hc;unfold Ed at hc;split at hc
   ·rw[List.mem_singleton.1 hc];exact⟨Qv hB hy,⟨y,.inr hy,rfl⟩,hA⟩
   ·rename_i x hx;obtain⟨p,_,hc⟩:=List.mem_flatMap.1 hc;unfold Fj at hc;split at hc
    ·cases hc
    ·rw[List.mem_singleton.1 hc];exact⟨Nat.le_trans (List.length_filter_le _ _) (Qv hB hy),⟨x,.inl (En (show Gb A y.kind y.name=some x from hx)).1,rfl⟩,hA⟩
 ·cases hc
def ApS(TA:List PBlock)(cs:List A6):Prop:=cs.length≤1048576∧(∀ c∈cs,c.name.size≤1048576∧Ae c.ls)∧Ra (cs.map A6.plain)≤1048576∧∀ b∈TA,b.lines.length+Ra (cs.map A6.plain)≤1048576
def ApT(TA:List PBlock)(cs:List A6):Prop:=cs.length≤781∧(∀ c∈cs,c.name.size≤1048576∧Ae c.ls∧c.ls.length≤121)∧∀ b∈TA,b.lines.length≤120
theorem ApT.s{cs:List A6}(h:ApT TA cs):ApS TA cs:=by
 have h1:=Ae2 121 (cs.map A6.plain) (fun c hc=>by
  obtain⟨d,hd,rfl⟩:=List.mem_map.1 hc;simpa [A6.plain] using (h.2.1 d hd).2.2)
 rw[List.length_map]at h1;have h2:=h.1;exact⟨by omega,fun c hc=>⟨(h.2.1 c hc).1,(h.2.1 c hc).2.1⟩,by omega,fun b hb=>by have:=h.2.2 b hb;omega⟩
theorem Ahb{cs:List A6}(h:cs.map A6.plain=diffS (az.map BAt.plain) (bs.map BAt.plain))(hs:∀ c∈cs,Ae c.ls)(sa:A2 az)(sb:A2 bs):ApS (az.map BAt.plain) cs∧cs.length≤780∧(cs≠[]→(∀ c∈cs,c.name.size≤1048576∧Ae c.ls∧c.ls.length≤120)∧∀ b∈az.map BAt.plain,b.lines.length≤120):=by
 have hl:=Abs (az.map BAt.plain) (bs.map BAt.plain);rw[← h,List.length_map]at hl;have hE:∀ c∈cs,(c.name.size≤1048576∧Ae c.ls∧c.ls.length≤120)∧∀ b∈az.map BAt.plain,b.lines.length≤120:=fun c hc=>by
  have h1:=Acs (show c.plain∈diffS (az.map BAt.plain) (bs.map BAt.plain) by rw[← h];exact List.mem_map_of_mem hc);refine⟨⟨?_,hs c hc,by simpa [A6.plain] using h1.1⟩,h1.2.2⟩;obtain⟨b,hb,e⟩:=h1.2.1;rw[show c.name=b.name from e];rcases hb with hb | hb
  ·obtain⟨x,hx,rfl⟩:=List.mem_map.1 hb;exact(sa.2 x hx).1
  ·obtain⟨x,hx,rfl⟩:=List.mem_map.1 hb;exact(sb.2 x hx).1
 cases cs with
 | nil =>
  refine⟨⟨by simp,by simp,by simp[Ra],fun b hb=>?_⟩,by simp,fun k=>absurd rfl k⟩;obtain⟨x,hx,rfl⟩:=List.mem_map.1 hb;have:=(sa.2 x hx).2.1;simpa [Ra,BAt.plain] using this
 | cons c cs=>exact⟨ApT.s ⟨by omega,fun d hd=>⟨(hE d hd).1.1,(hE d hd).1.2.1,by have:=(hE d hd).1.2.2;omega⟩,(hE c (by simp)).2⟩,hl,fun _=>⟨fun d hd=>(hE d hd).1,(hE c (by simp)).2⟩⟩
theorem Vs{T:TypeId}(hx:Ar W X cs T)(hn:∀ (i:Nat) (s:ByteArray),cs[i]?≠some (.string s)){size:Nat}(h:An W v n size xs)(hs:0<n→∃ s,xs[0]?=some (.string s)):Cr X v n:=by
 obtain⟨hl,ao,cap,rfl,hk,hc⟩:=h;rcases hc with h0 | ⟨b,off,rfl,hc⟩
 ·exact .inl h0
 ·by_cases h0:n=0
  ·exact .inl h0
  ·refine .inr fun b' off' m' c' e hb=>?_
   obtain⟨s,hs⟩:=hs (by omega);have h1:=hc 0 _ hs;cases e
   subst hb;have h2:=Ab hx (off+0);rw[h2]at h1;exact hn _ s h1
theorem Qw{T:TypeId}(hx:Ar W X cs T)(hn:∀ (i:Nat) (s:ByteArray),cs[i]?≠some (.string s))(h:Aw W v bs):Bk X v bs:=by
 refine⟨Vs hx hn h.1 fun k=>?_,fun x hx'=>⟨Vs hx hn (h.2 x hx').1 fun k=>?_,fun y hy=>Vs hx hn ((h.2 x hx').2 y hy) fun k=>?_⟩⟩
 ·cases bs with
  | nil=>exact absurd k (by simp)
  | cons y ls=>exact⟨y.kind,by simp[BAt.cells]⟩
 ·cases hl:x.ls with
  | nil=>rw[hl]at k;exact absurd k (by simp)
  | cons y ls=>exact⟨y.key,by simp[LAt.cells]⟩
 ·cases hw:y.ws with
  | nil=>rw[hw]at k;exact absurd k (by simp)
  | cons s ss=>exact⟨⟨s.toArray⟩,by unfold strs;simp⟩
theorem Ahy(h:Rd B W p k)(hb:Aw W v bs):Bk p v bs:=by
 obtain⟨_,a,len,cap,hx,_⟩:=h;refine Qw (show Ar W p _ _ from hx) (fun i s=>?_) hb
 match i with
 | 0=>simp
 | 1=>simp
 | i+2=>simp
theorem Abb{a:Option Addr}{T:TypeId}(hx:Ar W X #[.slice a n c] T)(hb:Aw W v bs):Bk X v bs:=by
 refine Qw hx (fun i s=>?_) hb
 match i with
 | 0=>simp
 | i+1=>simp
def Vt(w:World)(e:Ending)(w':World):Prop:=∃ a n c v TA cs,e=.returned (.tuple #[.agg #[.slice a n c],v])∧(Nw TA (.slice a n c) w'∧Dj w' v cs∧ApS TA cs)∧Below w.heap.size w w'
structure DaE(w:World)(R X:Nat)(az:List BAt)(av v:Value)(cs:List A6)(W:World):Prop where
 bw:Below w.heap.size w W
 rb:Ar W R #[.slice none 0 0] 25
 bx:Ar W X #[av] 25
 bin:Aw W av az
 ci:Dj W v cs
 cf:Cr R v cs.length∧∀ c∈cs,Aj R c.v c.ls
theorem DaE.fin{R:Nat}{a:Option Addr}{cs:List A6}(h:DaE w R X az (.slice a n c) v cs W)(hR:w.heap.size≤R)(hs:A2 az)(ha:ApS (az.map BAt.plain) cs):Vt w (.returned (.tuple #[.agg #[.slice a n c],v])) (W.setCell ⟨R,0,none⟩ (.slice a n c)) :=
 have gs:W.grownBy (W.setCell ⟨R,0,none⟩ (.slice a n c)) (some R):=⟨rfl,rfl,rfl,by simp,fun i _ hi=>heap_setCell_other W ⟨R,0,none⟩ i _ (fun e=>hi (by simp[e]))⟩
 ⟨a,n,c,v,_,cs,rfl,⟨⟨az,rfl,h.bin.far (Abb h.rb h.bin) gs,hs⟩,⟨h.ci.1.far h.cf.1 gs,fun d hd=>(h.ci.2 d hd).far (h.cf.2 d hd) gs⟩,ha⟩,Bu h.bw h.bw.size hR gs⟩
theorem Ae3{R:Nat}{cs:List A6}(m:A8 B W (⟨v,93,5,cs.length,cs.flatMap A6.cells⟩::L))(hL:∀ c∈cs,(c.ls=[]∧∃ ao cap,c.v=.slice ao 0 cap∧cap≤maxLen)∨∀ r∈Dr c.v c.ls,r∈L)(hR:R<B):Dj W v cs∧Cr R v cs.length∧∀ c∈cs,Aj R c.v c.ls:=by
 refine⟨⟨Bo m.head,fun c hc=>?_⟩,Cr.above m.head hR,fun c hc=>?_⟩
 ·rcases hL c hc with ⟨h1,ao,cap,h2,h3⟩ | h
  ·rw[h1,h2];exact⟨⟨rfl,ao,cap,rfl,⟨Nat.zero_le _,h3⟩,.inl rfl⟩,by simp⟩
  ·exact⟨Bo (m.tail.1 _ (h _ (List.mem_cons_self ..))),fun y hy=>Bo (m.tail.1 _ (h _ (List.mem_cons_of_mem _ (List.mem_map_of_mem hy))))⟩
 ·rcases hL c hc with ⟨h1,ao,cap,h2,h3⟩ | h
  ·rw[h1];exact⟨.inl rfl,by simp⟩
  ·exact⟨Cr.above (m.tail.1 _ (h _ (List.mem_cons_self ..))) hR,fun y hy=>Cr.above (m.tail.1 _ (h _ (List.mem_cons_of_mem _ (List.mem_map_of_mem hy)))) hR⟩
theorem Hj{cs:List A6}{c:A6}(hc:c∈cs):∀ r∈Dr c.v c.ls,r∈cs.flatMap A6.rows:=fun _ hr=>List.mem_flatMap.2 ⟨c,hc,hr⟩
structure Ro(w:World)(B p R X:Nat)(az:List BAt)(av v:Value)(cs:List A6)(k:Nat)(W:World):Prop where
 bw:Below w.heap.size w W
 rb:Ar W R #[.slice none 0 0] 25
 bx:Ar W X #[av] 25
 bin:Aw W av az
 abv:∀ q,B≤q→Bk q av az
 rd:Rd (w.heap.size+1) W p k
 co:Bv B W v cs
 hB:B≤W.heap.size
 ord:w.heap.size≤R∧R<p∧p<X∧X<B
theorem Ro.grown{R:Nat}{cs:List A6}{k':Nat}(h:Ro w B p R X az av v cs k W)(hg:W.grownBy W' (some p))(hr:Rd (w.heap.size+1) W' p k'):Ro w B p R X az av v cs k' W':=by
 have o:=h.ord;have hB:=h.hB;have hz:=hg.size;refine⟨Bu h.bw h.bw.size (by omega) hg,?_,?_,h.bin.far (Ahy h.rd h.bin) hg,h.abv,hr,A8.other h.co hg (by omega),by omega,o⟩
 ·exact(hg.block R (by omega) (by intro e;have:=Option.some.inj e;omega)).trans h.rb
 ·exact(hg.block X (by omega) (by intro e;have:=Option.some.inj e;omega)).trans h.bx
theorem Ro.below{R:Nat}{cs:List A6}(h:Ro w B p R X az av v cs k W)(hb:Below W.heap.size W W'):Ro w B p R X az av v cs k W':=by
 have o:=h.ord;have hB:=h.hB;have hz:=hb.size;exact⟨h.bw.trans (hb.mono h.bw.size),(hb.block R (by omega)).trans h.rb,(hb.block X (by omega)).trans h.bx,h.bin.below hb,h.abv,h.rd.below hb,h.co.below hb,by omega,o⟩
theorem Ro.e{R:Nat}{cs:List A6}(h:Ro w B p R X az av v cs k W):DaE w R X az av v cs W :=
 have c:=Ae3 (R:=R) (L:=cs.flatMap A6.rows) h.co (fun _ hc=>.inr (Hj hc)) (by have:=h.ord;omega)
 ⟨h.bw,h.rb,h.bx,h.bin,c.1,c.2⟩
theorem Ro.turn{R:Nat}{cs cs':List A6}(h:Ro w B p R X az av v cs k W)(hg:W.grownBy W' (some g))(hgB:B≤g)(m:A8 B W' (⟨v',93,5,cs'.length,cs'.flatMap A6.cells⟩::L))(hL:∀ c∈cs',(c.ls=[]∧∃ ao cap,c.v=.slice ao 0 cap∧cap≤maxLen)∨∀ r∈Dr c.v c.ls,r∈L):DaE w R X az av v' cs' W':=by
 have o:=h.ord;have hB:=h.hB;have c:=Ae3 (R:=R) m hL (by omega);refine⟨Bu h.bw h.bw.size (by omega) hg,?_,?_,h.bin.far (h.abv g hgB) hg,c.1,c.2⟩
 ·exact(hg.block R (by omega) (by intro e;have:=Option.some.inj e;omega)).trans h.rb
 ·exact(hg.block X (by omega) (by intro e;have:=Option.some.inj e;omega)).trans h.bx
theorem Ro.ge{R cap:Nat}{cs:List A6}(h:Ro w B p R X az av (.slice (some ⟨g,0,none⟩) n cap) cs k W):B≤g∧g<W.heap.size:=A8.lt h.co (List.mem_cons_self ..) rfl
theorem Ro.cell{R cap:Nat}{D T:List A6}{c c':A6}(h:Ro w B p R X az av (.slice (some ⟨g,0,none⟩) n cap) (D++c::T) k W)(hn:(D++c::T).length=n){pre post:List Value}{x u:Value}(hc:c.cells=pre++[x]++post)(hc':c'.cells=pre++[u]++post)(hL:c'.rows=c.rows∨c'.ls=[]∧∃ ao cap,c'.v=.slice ao 0 cap∧cap≤maxLen):DaE w R X az av (.slice (some ⟨g,0,none⟩) n cap) (D++c'::T) (W.setCell ⟨g,D.length * 5+pre.length,none⟩ u):=by
 have hr:=h.co.row;rw[hn]at hr;obtain⟨ys,hy,hg,hs⟩:=Ci [u] (D.length * 5+pre.length) W _ hr;have e1:ys=(D++c'::T).flatMap A6.cells:=by
  rw[hs (D.flatMap A6.cells++pre) [x] (post++T.flatMap A6.cells) (by rw[List.flatMap_append,List.flatMap_cons,hc];simp) (by rw[List.length_append,By _ 5 A6.len]) rfl,List.flatMap_append,List.flatMap_cons,hc'];simp
 subst e1;have hn':(D++c'::T).length=n:=by rw[← hn];simp
 have m:A8 B (W.setCell ⟨g,D.length * 5+pre.length,none⟩ u) (⟨.slice (some ⟨g,0,none⟩) n cap,93,5,(D++c'::T).length,(D++c'::T).flatMap A6.cells⟩::(D++c::T).flatMap A6.rows):=A8.turn h.co rfl (by rw[hn'];exact hy) hg;refine h.turn hg h.ge.1 m (fun d hd=>?_);rcases List.mem_append.1 hd with hd | hd
 ·exact .inr (Hj (List.mem_append_left _ hd))
 ·rcases List.mem_cons.1 hd with rfl | hd
  ·rcases hL with hL | hL
   ·right;show ∀ r∈A6.rows _,_
    rw[hL];exact Hj (c:=c) (by simp)
   ·exact .inl hL
  ·exact .inr (Hj (by simp[hd]))
theorem Ahz(l:List α)(k:Nat)(h:k<l.length):∃ D x T,l=D++x::T∧D.length=k:=⟨l.take k,l[k],l.drop (k+1),by simp,by simp;omega⟩
variable {U:TypeId}{ao:Option Addr}{cap':Nat}{ls:List LAt}{W1 W3:World}
theorem Ro.dup{R cap:Nat}{cs:List A6}{c:A6}{ys:Array Value}(h:Ro w B p R X az av (.slice (some ⟨g,0,none⟩) n cap) cs k W)(hn:cs.length=n)(hc:c∈cs)(ho:W'.ownsRow B 93 5 (.slice ao (n+1) cap') (n+1) (cs.flatMap A6.cells++c.cells))(hg:(W.alloc (.cells ys U)).grownBy W' (some g))(hv:(Value.slice ao (n+1) cap').ownBlock=some g∨(Value.slice ao (n+1) cap').ownBlock=some (W.alloc (.cells ys U)).heap.size):DaE w R X az av (.slice ao (n+1) cap') (cs++[c]) W':=by
 have hb:=(Below.refl W.heap.size W).alloc (Nat.le_refl _) (.cells ys U);have h1:=h.below hb;have hco:=h1.co;unfold Bv D9 at hco;rw[hn]at hco;have m:=hco.grow (r':=⟨.slice ao (n+1) cap',93,5,n+1,cs.flatMap A6.cells++c.cells⟩) ho hg hv;refine h1.turn (cs':=cs++[c]) (L:=cs.flatMap A6.rows) hg h.ge.1 (by rw[List.length_append,List.flatMap_append,List.flatMap_singleton,hn];exact m) (fun d hd=>.inr ?_);rcases List.mem_append.1 hd with hd | hd
 ·exact Hj hd
 ·rw[List.mem_singleton.1 hd];exact Hj hc
theorem Ro.more{R cap:Nat}{D T:List A6}{wh:Int}{kd nm ky:ByteArray}{va:Option Addr}{vc vn:Nat}{W2:World}{x:LAt}{ys:Array Value}
  (h:Ro w B p R X az av (.slice (some ⟨g,0,none⟩) n cap) (D++⟨wh,kd,nm,ky,.slice va vn vc,ls⟩::T) k W) (hn:(D++(⟨wh,kd,nm,ky,.slice va vn vc,ls⟩:A6)::T).length=n) (hvn:ls.length=vn)
  (hx:W1.ownsRow W.heap.size 9 1 x.v x.ws.length (strs x.ws)) (b1:Below W.heap.size W W1) (e2:W2=W1.alloc (.cells ys U))
  (ho:W3.ownsRow B 115 2 (.slice ao (vn+1) cap') (vn+1) (ls.flatMap LAt.cells++x.cells)) (hg:W2.grownBy W3 (Value.slice va vn vc).ownBlock) (hv:(Value.slice ao (vn+1) cap').ownBlock=(Value.slice va vn vc).ownBlock∨(Value.slice ao (vn+1) cap').ownBlock=some W2.heap.size) :
  W3.ownsRow B 93 5 (.slice (some ⟨g,0,none⟩) n cap) n ((D++(⟨wh,kd,nm,ky,.slice va vn vc,ls⟩:A6)::T).flatMap A6.cells)∧DaE w R X az av (.slice (some ⟨g,0,none⟩) n cap) (D++⟨wh,kd,nm,ky,.slice ao (vn+1) cap',ls++[x]⟩::T) (W3.setCell ⟨g,D.length * 5+4,none⟩ (.slice ao (vn+1) cap')):=by
 subst e2;have o:=h.ord;have hge:=h.ge;have hB:=h.hB;have hz1:=b1.size;have b2:Below W1.heap.size W1 (W1.alloc (.cells ys U)):=(Below.refl W1.heap.size W1).alloc (Nat.le_refl _) (.cells ys U);have b12:=b1.trans (b2.mono b1.size);have hz2:=b12.size;have h2:=h.below b12;have m0:A8 B W1 ([x.row]++D9 (.slice (some ⟨g,0,none⟩) n cap) (D++(⟨wh,kd,nm,ky,.slice va vn vc,ls⟩:A6)::T)):=A8.join h.co (A8.own1 hx) b1 hB;have m1:=m0.below b2;have m2:A8 B (W1.alloc (.cells ys U)) (⟨.slice va vn vc,115,2,ls.length,ls.flatMap LAt.cells⟩::(⟨.slice (some ⟨g,0,none⟩) n cap,93,5,(D++(⟨wh,kd,nm,ky,.slice va vn vc,ls⟩:A6)::T).length,(D++(⟨wh,kd,nm,ky,.slice va vn vc,ls⟩:A6)::T).flatMap A6.cells⟩::x.row::(D.flatMap A6.rows++(ls.map LAt.row++T.flatMap A6.rows)))):=m1.perm (by
  unfold D9;rw[show (D++(⟨wh,kd,nm,ky,.slice va vn vc,ls⟩:A6)::T).flatMap A6.rows=D.flatMap A6.rows++((⟨.slice va vn vc,115,2,ls.length,ls.flatMap LAt.cells⟩::ls.map LAt.row)++T.flatMap A6.rows) by rw[List.flatMap_append,List.flatMap_cons];rfl];refine(List.Perm.swap _ _ _).trans ?_;refine(List.Perm.cons _ (List.Perm.cons _ ?_)).trans ((List.Perm.cons _ (List.Perm.swap _ _ _)).trans (List.Perm.swap _ _ _));exact List.perm_middle)
 have m3:=m2.grow (r':=⟨.slice ao (vn+1) cap',115,2,vn+1,ls.flatMap LAt.cells++x.cells⟩) ho hg hv;have m4:=m3.perm (List.Perm.swap _ _ _);have hr3:=m4.head;rw[hn]at hr3;refine⟨hr3,?_⟩;obtain⟨zs,hy,hgs,hs⟩:=Ci [.slice ao (vn+1) cap'] (D.length * 5+4) W3 _ hr3;have e1:zs=(D++(⟨wh,kd,nm,ky,.slice ao (vn+1) cap',ls++[x]⟩:A6)::T).flatMap A6.cells:=by
  rw[hs (D.flatMap A6.cells++[.int .i64 wh,.string kd,.string nm,.string ky]) [.slice va vn vc] (T.flatMap A6.cells) (by rw[List.flatMap_append,List.flatMap_cons];simp[A6.cells]) (by rw[List.length_append,By _ 5 A6.len];rfl) rfl,List.flatMap_append,List.flatMap_cons];simp[A6.cells]
 subst e1;have hn':(D++(⟨wh,kd,nm,ky,.slice ao (vn+1) cap',ls++[x]⟩:A6)::T).length=n:=by rw[← hn];simp
 have m5:=A8.turn (w':=W3.setCell ⟨g,D.length * 5+4,none⟩ (.slice ao (vn+1) cap')) (r':=⟨.slice (some ⟨g,0,none⟩) n cap,93,5,(D++(⟨wh,kd,nm,ky,.slice ao (vn+1) cap',ls++[x]⟩:A6)::T).length,(D++(⟨wh,kd,nm,ky,.slice ao (vn+1) cap',ls++[x]⟩:A6)::T).flatMap A6.cells⟩) m4 rfl (by rw[hn'];exact hy) hgs;have hW3:Below w.heap.size w W3∧Ar W3 R #[.slice none 0 0] 25∧Ar W3 X #[av] 25∧Aw W3 av az:=by
  obtain⟨q,hqB,hg⟩:∃ q,B≤q∧(W1.alloc (.cells ys U)).grownBy W3 (some q):=by
   cases hq:(Value.slice va vn vc).ownBlock with
   | none =>
    rw[hq]at hg;exact⟨(W1.alloc (.cells ys U)).heap.size,by omega,⟨hg.os,hg.tape,hg.output,hg.size,fun i hi _=>hg.block i hi (by simp)⟩⟩
   | some q =>
    rw[hq]at hg;exact⟨q,(A8.lt m2 (List.mem_cons_self ..) hq).1,hg⟩
  exact⟨Bu h2.bw h2.bw.size (by omega) hg,(hg.block R (by omega) (by intro e;have:=Option.some.inj e;omega)).trans h2.rb,(hg.block X (by omega) (by intro e;have:=Option.some.inj e;omega)).trans h2.bx,h2.bin.far (h2.abv q hqB) hg⟩
 have hz3:=hg.size;have c:=Ae3 (R:=R) m5 (fun d hd=>.inr (fun r hr=>?_)) (by omega)
 ·exact⟨Bu hW3.1 hW3.1.size (by omega) hgs,(hgs.block R (by omega) (by intro e;have:=Option.some.inj e;omega)).trans hW3.2.1,(hgs.block X (by omega) (by intro e;have:=Option.some.inj e;omega)).trans hW3.2.2.1,hW3.2.2.2.far (h2.abv g hge.1) hgs,c.1,c.2⟩
 ·rcases List.mem_append.1 hd with hd | hd
  ·have:=Hj hd r hr;simp[this]
  ·rcases List.mem_cons.1 hd with rfl | hd
   ·rcases List.mem_cons.1 hr with rfl | hr
    ·rw[List.flatMap_append,List.length_append,hvn];simp
    ·rw[List.map_append]at hr;rcases List.mem_append.1 hr with hr | hr
     ·simp[hr]
     ·rw[List.mem_singleton.1 hr];simp
   ·have:=Hj hd r hr;simp[this]
theorem Ip{cap z:Nat}{D T:List A6}{c:A6}(h:W.ownsRow B 93 5 (.slice (some ⟨g,0,none⟩) n cap) n ((D++c::T).flatMap A6.cells))(hD:D.length=z):(W.cell? ⟨g,z * 5,none⟩=some (.int .i64 c.what)∧W.cell? ⟨g,z * 5+1,none⟩=some (.string c.kind)∧W.cell? ⟨g,z * 5+2,none⟩=some (.string c.name)∧W.cell? ⟨g,z * 5+3,none⟩=some (.string c.key)∧W.cell? ⟨g,z * 5+4,none⟩=some c.v)∧∀ i,W.frozen? ⟨g,i,none⟩=false:=by
 obtain⟨b,off,e,k1,k2,k3,k4,k5⟩:=(Bo h).change;cases e
 rw[hD]at k1 k2 k3 k4 k5;rw[Nat.zero_add]at k1 k2 k3 k4 k5;exact⟨⟨k1,k2,k3,k4,k5⟩,fun i=>h.frozenAt i⟩
theorem Ro.row{R:Nat}{cs:List A6}(h:Ro w B p R X az av v cs k W)(hn:cs.length=n):W.ownsRow B 93 5 v n (cs.flatMap A6.cells):=by rw[← hn];exact h.co.row
def DaX(w:World)(R X:Nat)(az:List BAt)(av v:Value)(W:World):Prop:=∃ a n c cs,v=.slice a n c∧DaE w R X az av v cs W∧ApS (az.map BAt.plain) cs
theorem Q9{D T:List A6}{c c':A6}(hl:(D++c::T).length≤780)(hs:∀ d∈D++c::T,d.name.size≤1048576∧Ae d.ls∧d.ls.length≤120)(hA:∀ b∈TA,b.lines.length≤120)(h1:c'.name.size≤1048576)(h2:Ae c'.ls∧c'.ls.length≤121):ApS TA (D++c'::T):=by
 refine ApT.s ⟨by simp at hl ⊢;omega,fun d hd=>?_,hA⟩;rcases List.mem_append.1 hd with hd | hd
 ·have:=hs d (List.mem_append_left _ hd);exact⟨this.1,this.2.1,by omega⟩
 ·rcases List.mem_cons.1 hd with rfl | hd
  ·exact⟨h1,h2.1,h2.2⟩
  ·have:=hs d (by simp[hd]);exact⟨this.1,this.2.1,by omega⟩
theorem Rt(a:Option Addr)(len cap:Nat)(w:World)(hc:Code w.heap.size w a len cap):Calls Tryz.prog 37 #[.slice a len cap] w fun e w'=>Vt w e w':=by
 have b0:=(Below.refl w.heap.size w).alloc (Nat.le_refl _) (.cells #[.slice none 0 0] 25);have z1:=Al w (.cells #[.slice none 0 0] 25);have s1:(w.alloc (.cells #[.slice none 0 0] 25)).heap.size=w.heap.size+1:=by simp
 have hc1:=hc.below b0 (show w.heap.size≤w.heap.size+1 by omega);generalize hw1:w.alloc (.cells #[.slice none 0 0] 25)=w1 at *;have HO:=Qr (w.heap.size+1) a len cap w1 (by omega) hc1.1 hc1.2.1 hc1.2.2.1 hc1.2.2.2;rw[s1]at HO;have HCC:=Aa hc;clear hc hc1;go_enter Tryz.func37,Tryz.ntmps37;go_wp2_with (go_at_call 42;(try rw[hw1]);refine HO.mono ?_)
 rintro e w2 ⟨rfl,h2,b2⟩;have hz2:=b2.size;have z2:=(b2.block w.heap.size (by omega)).trans z1;have b02:=b0.trans (b2.mono (by omega));have hpl:=h2.lt;have HD:=Mx a len cap w2 (HCC.out.below b02 (by omega));clear HO hw1 HCC z1 b0 b2;go_wp2_with (go_at_call 10;refine HD.mono ?_)
 rintro e w3 ⟨sa,sn,sc,sb,sm,sd,TA,TB,rfl,⟨⟨az,rfl,hia,hsa⟩,⟨bs,rfl,hib,hsb⟩⟩,b3⟩;obtain⟨x1,cA,cB⟩:=Z7 w3 (.slice sa sn sc) (.slice sb sm sd);have hz3:=b3.size;have s4:((w3.alloc (.cells #[.slice sa sn sc] 25)).alloc (.cells #[.slice sb sm sd] 25)).heap.size=w3.heap.size+2:=by simp
 have bX:Ar ((w3.alloc (.cells #[.slice sa sn sc] 25)).alloc (.cells #[.slice sb sm sd] 25)) w3.heap.size #[.slice sa sn sc] 25:=by
  have b1:=(Below.refl (w3.alloc (.cells #[.slice sa sn sc] 25)).heap.size (w3.alloc (.cells #[.slice sa sn sc] 25))).alloc (Nat.le_refl _) (.cells #[.slice sb sm sd] 25);exact(b1.block w3.heap.size (by simp)).trans (Al w3 _)
 have b34:=b3.trans (x1.mono b3.size);have zR:=(b34.block w.heap.size (by omega)).trans z2;have b04:=b02.trans (b34.mono (by omega));have HF:=Mj (hia.below x1) (hib.below x1) hsa hsb;have IA:=Aa (hia.below x1);have hr4:=h2.below b34;clear HD hia hib x1 b3 b34 z2 b02 h2;generalize hW4:(w3.alloc (.cells #[.slice sa sn sc] 25)).alloc (.cells #[.slice sb sm sd] 25)=W4 at *;go_wp2_with (go_at_call 36;(try rw[hW4]);refine HF.mono ?_)
 rintro e w5 ⟨v5,cs,rfl,hp5,hs5,hl5,o5,b5⟩;have hz5:=b5.size;have HS:Ro w W4.heap.size (w.heap.size+1) w.heap.size w3.heap.size az (.slice sa sn sc) v5 cs 0 w5:=⟨b04.trans (b5.mono (by omega)),(b5.block _ (by omega)).trans zR,(b5.block _ (by omega)).trans bX,IA.out.below b5,fun q hq=>⟨Cr.of_lt IA.out.1 (by decide) hq,fun x hx=>Ah.fresh (IA.out.2 x hx) hq⟩,hr4.below b5,o5,by omega,by omega,by omega,by omega,by omega⟩;obtain⟨va,vc,rfl,_⟩:=Ai o5.row;have hAP:=Ahb hp5 hs5 hsa hsb;have HSA:=Aa hsa;have HS5:=Aa HS;have HAP:=Aa hAP;have hn5:=hAP.2.1;have xA:=Ab HS.bx 0;have xR:=HS.rb;simp only[List.getElem?_toArray,List.getElem?_cons_zero]at xA;clear HF HS hp5 hs5 o5 b5 hr4 bX zR b04 IA hsb hsa hAP cA cB hW4;generalize hX:w3.heap.size=X at *;generalize hB:W4.heap.size=B at *;clear hB s4 hX;have HFIN:=Aa (show ∀(v:Value) (cs:List A6) (W:World),DaE w w.heap.size X az (.slice sa sn sc) v cs W→ApS (az.map BAt.plain) cs→Vt w (.returned (.tuple #[.agg #[.slice sa sn sc],v])) (W.setCell ⟨w.heap.size,0,none⟩ (.slice sa sn sc)) from fun v cs W h1 h2=>h1.fin (Nat.le_refl _) HSA.out h2);clear HSA;generalize hnn:cs.length=n at *;have enn:=Aa hnn;clear hnn;by_cases h0:n=0
 ·subst h0;have HOK:=Aa (HFIN.out _ _ _ HS5.out.e HAP.out.1);clear HS5 HAP HFIN hn5 enn;have x0:=Ab xR 0;have f0:=Ag xR 0;simp only[List.getElem?_toArray,List.getElem?_cons_zero]at x0;have z7:(w5.setCell ⟨w.heap.size,0,none⟩ (.slice sa sn sc)).heap[w.heap.size]?=some (.cells #[.slice sa sn sc] 25 (0,0)):=by rw[heap_setCell_same w5 w.heap.size 0 _ _ _ xR];rfl
  have y0:=Ab z7 0;simp only[List.getElem?_toArray,List.getElem?_cons_zero]at y0;clear z7 xR;go_wp2;exact bodyPost_ret (v:=.tuple #[.agg #[.slice sa sn sc],.slice va 0 vc]) (by simp[results,Tryz.results37,go_sem,y0]) rfl HOK.out
 have hn0:((n:Int) == 0)=false:=by rw[beq_eq_false_iff_ne];omega
 have HP:=Bn _ _ 0 3 w5 HS5.out.rd (by omega) (by omega) (by omega);clear xA xR;go_wp2_with (go_at_call 44;refine HP.mono ?_)
 rintro e w6 ⟨y,hy,rfl,hr6,hg6⟩;have HS6:=Aa (HS5.out.grown hg6 hr6);have xA:=Ab HS6.out.bx 0;have xR:=HS6.out.rb;simp only[List.getElem?_toArray,List.getElem?_cons_zero]at xA;clear HS5 HP hr6 hg6;by_cases hy0:0<y
 ·have hy1:(0:Int)<(y:Int):=by omega
  have HOK:=Aa (HFIN.out _ _ _ HS6.out.e HAP.out.1);clear HS6 HAP HFIN hn5 enn;have x0:=Ab xR 0;have f0:=Ag xR 0;simp only[List.getElem?_toArray,List.getElem?_cons_zero]at x0;have z7:(w6.setCell ⟨w.heap.size,0,none⟩ (.slice sa sn sc)).heap[w.heap.size]?=some (.cells #[.slice sa sn sc] 25 (0,0)):=by rw[heap_setCell_same w6 w.heap.size 0 _ _ _ xR];rfl
  have y0:=Ab z7 0;simp only[List.getElem?_toArray,List.getElem?_cons_zero]at y0;clear z7 xR;go_wp2;exact bodyPost_ret (v:=.tuple #[.agg #[.slice sa sn sc],.slice va n vc]) (by simp[results,Tryz.results37,go_sem,y0]) rfl HOK.out
 obtain rfl:y=0:=by omega
 have hy1:¬ (0:Int)<((0:Nat):Int):=by omega
 have HP:=Bn _ _ (0+1) n w6 HS6.out.rd (by omega) (by omega) (by omega);clear xA xR;go_wp2_with (go_at_call 44;refine HP.mono ?_)
 rintro e w7 ⟨z,hz,rfl,hr7,hg7⟩;have HS7:=Aa (HS6.out.grown hg7 hr7);have HP2:=Bn _ _ (0+1+1) 6 w7 hr7 (by omega) (by omega) (by omega);clear HS6 HP hr7 hg7;go_wp2_with (go_at_call 44;refine HP2.mono ?_)
 rintro e w8 ⟨q,hq,rfl,hr8,hg8⟩;have HS8:=HS7.out.grown hg8 hr8;clear HS7 HP2 hr8 hg8;obtain⟨D,c,T,ecs,hD⟩:=Ahz cs z (by rw[enn.out];exact hz);obtain⟨g,rfl⟩:∃ g,va=some ⟨g,0,none⟩:=Lz HS8.co.row (by rw[enn.out];exact h0);have HAC:=(HAP.out.2.2 (by rw[ecs];simp));rw[ecs]at HS8 HAC;have hlen:(D++c::T).length=n:=by rw[← ecs];exact enn.out
 have HAC':=Aa HAC;have HLN:=Aa hlen;have HS9:=Aa HS8;clear HAP HS8 HAC hlen ecs enn;obtain⟨ch,ck,cn,cy,cv,cl⟩:=c;obtain⟨ca,cc,rfl⟩:∃ ca cc,cv=.slice ca cl.length cc:=(HS9.out.co.cin.2 ⟨ch,ck,cn,cy,cv,cl⟩ (by simp)).1.form;generalize hcl:cl.length=nl at *;have ENL:=Aa hcl;have ED:=Aa hD;clear hcl hD;have hzn:(z:Int)<(n:Int):=by omega
 have hz0:(0:Int)≤(z:Int):=by omega
 go_upto_block 0 with fail
 go_cut [7] from 7 to 94 (fun l wx=>DaX w w.heap.size X az (.slice sa sn sc) l wx)
 case first =>
  rcases(show q=0∨q=1∨q=2∨q=3∨q=4∨q=5 by omega) with rfl | rfl | rfl | rfl | rfl | rfl
  ·have HPx:=Bn _ _ _ 7 w8 HS9.out.rd (by omega) (by omega) (by omega);go_wp2_with (go_at_call 44;refine HPx.mono ?_)
   rintro e W ⟨y,hy,rfl,hr,hg⟩;have HS:=HS9.out.grown hg hr;obtain⟨⟨k1,k2,k3,k4,k5⟩,kf⟩:=Ip (HS.row HLN.out) ED.out;have HE:=Aa (show DaX w w.heap.size X az (.slice sa sn sc) (.slice (some ⟨g,0,none⟩) n vc) (W.setCell ⟨g,z * 5,none⟩ (.int .i64 ((y:Int) - 1))) from⟨_,_,_,D++⟨(y:Int) - 1,ck,cn,cy,.slice ca nl cc,cl⟩::T,rfl,(by
    have:=HS.cell (c':=⟨(y:Int) - 1,ck,cn,cy,.slice ca nl cc,cl⟩) HLN.out (pre:=[]) rfl rfl (.inl rfl);rw[ED.out]at this;exact this),Q9 (by rw[HLN.out];exact hn5) HAC'.out.1 HAC'.out.2 (HAC'.out.1 ⟨ch,ck,cn,cy,.slice ca nl cc,cl⟩ (by simp)).1 ⟨(HAC'.out.1 ⟨ch,ck,cn,cy,.slice ca nl cc,cl⟩ (by simp)).2.1,Nat.le_succ_of_le (HAC'.out.1 ⟨ch,ck,cn,cy,.slice ca nl cc,cl⟩ (by simp)).2.2⟩⟩)
   have kf0:=kf (z * 5);clear HPx HS9 HS hr hg kf HFIN HLN ED ENL HAC';go_wp2_with fail
   go_meet;exact HE.out
  ·have bt:=(Below.refl w8.heap.size w8).alloc (Nat.le_refl _) (.cells (([⟨#[103,111,110,101]⟩,⟨#[65]⟩,⟨#[119,101,98]⟩]:List ByteArray).map Value.string).toArray 9);have HS1:=Aa (HS9.out.below bt);have hp8:w.heap.size+1<w8.heap.size:=HS9.out.rd.lt;have HPx:=Bn _ _ _ 3 _ HS1.out.rd (by omega) (by omega) (by omega);clear HS9 bt;go_wp2_with (go_at_call 44;refine HPx.mono ?_)
   rintro e W ⟨y,hy,rfl,hr,hg⟩;obtain⟨u,hu,hcu⟩:=Pa w8 W [⟨#[103,111,110,101]⟩,⟨#[65]⟩,⟨#[119,101,98]⟩] y (w.heap.size+1) hy hg (by omega);have HS:=HS1.out.grown hg hr;obtain⟨⟨k1,k2,k3,k4,k5⟩,kf⟩:=Ip (HS.row HLN.out) ED.out;have hus:u.size≤1048576:=by
    simp only[List.mem_cons,List.not_mem_nil,or_false]at hu;rcases hu with rfl | rfl | rfl <;> decide
   have HE:=Aa (show DaX w w.heap.size X az (.slice sa sn sc) (.slice (some ⟨g,0,none⟩) n vc) (W.setCell ⟨g,z * 5+2,none⟩ (.string u)) from⟨_,_,_,D++⟨ch,ck,u,cy,.slice ca nl cc,cl⟩::T,rfl,(by
    have:=HS.cell (c':=⟨ch,ck,u,cy,.slice ca nl cc,cl⟩) HLN.out (pre:=[.int .i64 ch,.string ck]) rfl rfl (.inl rfl);rw[ED.out]at this;exact this),Q9 (by rw[HLN.out];exact hn5) HAC'.out.1 HAC'.out.2 hus ⟨(HAC'.out.1 ⟨ch,ck,cn,cy,.slice ca nl cc,cl⟩ (by simp)).2.1,Nat.le_succ_of_le (HAC'.out.1 ⟨ch,ck,cn,cy,.slice ca nl cc,cl⟩ (by simp)).2.2⟩⟩)
   have y3:(y:Int)<3:=by omega
   have y0:(0:Int)≤(y:Int):=by omega
   have kf0:=kf (z * 5+2);clear HPx HS1 HS hr hg hu kf HFIN HLN ED ENL HAC';go_wp2_with fail
   go_meet;exact HE.out
  ·have bt:=(Below.refl w8.heap.size w8).alloc (Nat.le_refl _) (.cells (([⟨#[]⟩,⟨#[105,109,97,103,101]⟩,⟨#[110,111,110,101]⟩]:List ByteArray).map Value.string).toArray 9);have HS1:=Aa (HS9.out.below bt);have hp8:w.heap.size+1<w8.heap.size:=HS9.out.rd.lt;have HPx:=Bn _ _ _ 3 _ HS1.out.rd (by omega) (by omega) (by omega);clear HS9 bt;go_wp2_with (go_at_call 44;refine HPx.mono ?_)
   rintro e W ⟨y,hy,rfl,hr,hg⟩;obtain⟨u,hu,hcu⟩:=Pa w8 W [⟨#[]⟩,⟨#[105,109,97,103,101]⟩,⟨#[110,111,110,101]⟩] y (w.heap.size+1) hy hg (by omega);have HS:=HS1.out.grown hg hr;obtain⟨⟨k1,k2,k3,k4,k5⟩,kf⟩:=Ip (HS.row HLN.out) ED.out;have hus:u.size≤1048576:=by
    simp only[List.mem_cons,List.not_mem_nil,or_false]at hu;rcases hu with rfl | rfl | rfl <;> decide
   have HE:=Aa (show DaX w w.heap.size X az (.slice sa sn sc) (.slice (some ⟨g,0,none⟩) n vc) (W.setCell ⟨g,z * 5+3,none⟩ (.string u)) from⟨_,_,_,D++⟨ch,ck,cn,u,.slice ca nl cc,cl⟩::T,rfl,(by
    have:=HS.cell (c':=⟨ch,ck,cn,u,.slice ca nl cc,cl⟩) HLN.out (pre:=[.int .i64 ch,.string ck,.string cn]) rfl rfl (.inl rfl);rw[ED.out]at this;exact this),Q9 (by rw[HLN.out];exact hn5) HAC'.out.1 HAC'.out.2 (HAC'.out.1 ⟨ch,ck,cn,cy,.slice ca nl cc,cl⟩ (by simp)).1 ⟨(HAC'.out.1 ⟨ch,ck,cn,cy,.slice ca nl cc,cl⟩ (by simp)).2.1,Nat.le_succ_of_le (HAC'.out.1 ⟨ch,ck,cn,cy,.slice ca nl cc,cl⟩ (by simp)).2.2⟩⟩)
   have y3:(y:Int)<3:=by omega
   have y0:(0:Int)≤(y:Int):=by omega
   have kf0:=kf (z * 5+3);clear HPx HS1 HS hr hg hu kf HFIN HLN ED ENL HAC';go_wp2_with fail
   go_meet;exact HE.out
  ·have ba:=(Below.refl w8.heap.size w8).alloc (Nat.le_refl _) (.cells #[.int .i64 ch,.string ck,.string cn,.string cy,.slice ca nl cc] 93);obtain⟨⟨k1,k2,k3,k4,k5⟩,kf⟩:=Ip (HS9.out.row HLN.out) ED.out;have hm3:=(HS9.out.below ba).row HLN.out;obtain⟨xs,hxs⟩:∃ xs,xs=(D++(⟨ch,ck,cn,cy,.slice ca nl cc,cl⟩:A6)::T).flatMap A6.cells:=⟨_,rfl⟩;rw[← hxs]at hm3;have HXS:=Aa hxs;clear hxs;have hrow:=Cj w8 #[.int .i64 ch,.string ck,.string cn,.string cy,.slice ca nl cc] 93 5 rfl;have hone:∀ u∈(#[.int .i64 ch,.string ck,.string cn,.string cy,.slice ca nl cc]:Array Value).toList,u.oneCell'=true:=by intro u hu;simp at hu;rcases hu with rfl | rfl | rfl | rfl | rfl <;> rfl
   obtain⟨i0,hi,hi0,hi1,hi2⟩:=info_parts Ib;have hB8:=HS9.out.hB;clear kf ba;go_wp2_with (at_builtin;refine Be (by rfl) _ _ 34 (by rfl) B 93 i0 _ 5 80 Tryz.underlying34 hi hi0 hi1 hi2 rfl (by decide) _ n _ (by rfl) hm3 _ 1 _ (by rfl) hrow hone ?c3 ?c4 (by rw[World.size_alloc];omega) ?_)
   case c3=>unfold maxLen;omega
   case c4=>omega
   intro ao' cap' wE hownE hgE hvE;rw[HXS.out]at hownE;have HE:=Aa (show DaX w w.heap.size X az (.slice sa sn sc) (.slice ao' (n+1) cap') wE from⟨_,_,_,_,rfl,HS9.out.dup HLN.out (c:=⟨ch,ck,cn,cy,.slice ca nl cc,cl⟩) (by simp) hownE hgE (by rw[World.size_alloc];exact hvE),ApT.s ⟨by rw[List.length_append,HLN.out,List.length_singleton];omega,fun d hd=>by
    rcases List.mem_append.1 hd with hd | hd
    ·exact⟨(HAC'.out.1 d hd).1,(HAC'.out.1 d hd).2.1,Nat.le_succ_of_le (HAC'.out.1 d hd).2.2⟩
    ·rw[List.mem_singleton.1 hd];exact⟨(HAC'.out.1 ⟨ch,ck,cn,cy,.slice ca nl cc,cl⟩ (by simp)).1,(HAC'.out.1 ⟨ch,ck,cn,cy,.slice ca nl cc,cl⟩ (by simp)).2.1,Nat.le_succ_of_le (HAC'.out.1 ⟨ch,ck,cn,cy,.slice ca nl cc,cl⟩ (by simp)).2.2⟩,HAC'.out.2⟩⟩)
   clear HS9 HXS hm3 hrow hone hownE hgE hvE HFIN HLN ED ENL HAC' k1 k2 k3 k4 k5 hi hi0 hi1 hi2;go_wp2_with fail
   go_meet;exact HE.out
  ·have b1:=(Below.refl w8.heap.size w8).alloc (Nat.le_refl _) (.cells #[.string ⟨#[49]⟩] 9);have b2:=(Below.refl (w8.alloc (.cells #[.string ⟨#[49]⟩] 9)).heap.size (w8.alloc (.cells #[.string ⟨#[49]⟩] 9))).alloc (Nat.le_refl _) (.cells #[.string ⟨#[105,109,97,103,101]⟩,.slice (some ⟨w8.heap.size,0,none⟩) 1 1] 115);obtain⟨⟨k1,k2,k3,k4,k5⟩,kf⟩:=Ip (HS9.out.row HLN.out) ED.out;have hx:(w8.alloc (.cells #[.string ⟨#[49]⟩] 9)).ownsRow w8.heap.size 9 1 (.slice (some ⟨w8.heap.size,0,none⟩) 1 1) 1 (strs [[49]]):=World.ownsRow_lit (base:=w8.heap.size) (e:=9) (size:=1) w8 #[.string ⟨#[49]⟩] 1 (Nat.le_refl _) (by decide) (by decide);have hm3:((w8.alloc (.cells #[.string ⟨#[49]⟩] 9)).alloc (.cells #[.string ⟨#[105,109,97,103,101]⟩,.slice (some ⟨w8.heap.size,0,none⟩) 1 1] 115)).ownsRow B 115 2 (.slice ca nl cc) nl (cl.flatMap LAt.cells):=by
    have:=(((HS9.out.below b1).below b2).co.lines ⟨ch,ck,cn,cy,.slice ca nl cc,cl⟩ (by simp)).row;rw[show ((⟨ch,ck,cn,cy,.slice ca nl cc,cl⟩:A6).ls).length=nl from ENL.out]at this;exact this
   have hrow:=Cj (w8.alloc (.cells #[.string ⟨#[49]⟩] 9)) #[.string ⟨#[105,109,97,103,101]⟩,.slice (some ⟨w8.heap.size,0,none⟩) 1 1] 115 2 rfl;rw[World.size_alloc]at hrow;have hone:∀ u∈(#[.string ⟨#[105,109,97,103,101]⟩,.slice (some ⟨w8.heap.size,0,none⟩) 1 1]:Array Value).toList,u.oneCell'=true:=by intro u hu;simp at hu;rcases hu with rfl | rfl <;> rfl
   obtain⟨i0,hi,hi0,hi1,hi2⟩:=info_parts Ez;have hB8:=HS9.out.hB;have hnl:nl≤120:=by have:=(HAC'.out.1 ⟨ch,ck,cn,cy,.slice ca nl cc,cl⟩ (by simp)).2.2;rw[← ENL.out];exact this
   clear kf b2;go_wp2_with (at_builtin;refine Be (by rfl) _ _ 44 (by rfl) B 115 i0 _ 2 40 Tryz.underlying44 hi hi0 hi1 hi2 rfl (by decide) _ nl _ (by rfl) hm3 _ 1 _ (by rfl) hrow hone ?c3 ?c4 (by rw[World.size_alloc,World.size_alloc];omega) ?_)
   case c3=>unfold maxLen;omega
   case c4=>omega
   intro ao' cap' wE hownE hgE hvE;obtain⟨hr3,hE⟩:=HS9.out.more (x:=⟨⟨#[105,109,97,103,101]⟩,.slice (some ⟨w8.heap.size,0,none⟩) 1 1,[[49]]⟩) HLN.out ENL.out hx b1 rfl hownE hgE (by rw[World.size_alloc,World.size_alloc];exact hvE);obtain⟨⟨j1,j2,j3,j4,j5⟩,jf⟩:=Ip hr3 ED.out;rw[ED.out]at hE;have HE:=Aa (show DaX w w.heap.size X az (.slice sa sn sc) (.slice (some ⟨g,0,none⟩) n vc) (wE.setCell ⟨g,z * 5+4,none⟩ (.slice ao' (nl+1) cap')) from⟨_,_,_,_,rfl,hE,Q9 (by rw[HLN.out];exact hn5) HAC'.out.1 HAC'.out.2 (HAC'.out.1 ⟨ch,ck,cn,cy,.slice ca nl cc,cl⟩ (by simp)).1 ⟨⟨by simp only[List.length_append,List.length_singleton,ENL.out];omega,fun y hy=>by
    rcases List.mem_append.1 hy with hy | hy
    ·exact(HAC'.out.1 ⟨ch,ck,cn,cy,.slice ca nl cc,cl⟩ (by simp)).2.1.2 y hy
    ·rw[List.mem_singleton.1 hy];exact⟨by simp,by simp⟩⟩,by simp only[List.length_append,List.length_singleton,ENL.out];omega⟩⟩)
   have jf4:=jf (z * 5+4);clear HS9 hm3 hrow hone hownE hgE hvE HFIN HLN ED ENL HAC' k1 k2 k3 k4 k5 hi hi0 hi1 hi2 hr3 hE jf hx b1;go_wp2_with fail
   go_meet;exact HE.out
  ·have ba:=(Below.refl w8.heap.size w8).alloc (Nat.le_refl _) (.cells #[] 115);have HS:=HS9.out.below ba;obtain⟨⟨k1,k2,k3,k4,k5⟩,kf⟩:=Ip (HS.row HLN.out) ED.out;have HE:=Aa (show DaX w w.heap.size X az (.slice sa sn sc) (.slice (some ⟨g,0,none⟩) n vc) ((w8.alloc (.cells #[] 115)).setCell ⟨g,z * 5+4,none⟩ (.slice (some ⟨w8.heap.size,0,none⟩) 0 0)) from⟨_,_,_,D++⟨ch,ck,cn,cy,.slice (some ⟨w8.heap.size,0,none⟩) 0 0,[]⟩::T,rfl,(by
    have:=HS.cell (c':=⟨ch,ck,cn,cy,.slice (some ⟨w8.heap.size,0,none⟩) 0 0,[]⟩) HLN.out (pre:=[.int .i64 ch,.string ck,.string cn,.string cy]) rfl rfl (.inr ⟨rfl,_,_,rfl,Nat.zero_le _⟩);rw[ED.out]at this;exact this),Q9 (by rw[HLN.out];exact hn5) HAC'.out.1 HAC'.out.2 (HAC'.out.1 ⟨ch,ck,cn,cy,.slice ca nl cc,cl⟩ (by simp)).1 ⟨⟨by simp,by simp⟩,by simp⟩⟩)
   have kf4:=kf (z * 5+4);clear HS9 HS ba kf HFIN HLN ED ENL HAC';go_wp2_with fail
   go_meet;exact HE.out
 case rest =>
  clear HS9 HAC' HLN ENL ED;obtain⟨wk,hwk⟩:∃ wk,wk=wc:=⟨_,rfl⟩;subst hwk;obtain⟨la,ln,lc,cs',rfl,hE,hap⟩:=hcut;have HOK:=Aa (HFIN.out _ _ _ hE hap);have xA:=Ab hE.bx 0;have xR:=hE.rb;simp only[List.getElem?_toArray,List.getElem?_cons_zero]at xA;clear hE hap HFIN;have x0:=Ab xR 0;have f0:=Ag xR 0;simp only[List.getElem?_toArray,List.getElem?_cons_zero]at x0;have z7:(wk.setCell ⟨w.heap.size,0,none⟩ (.slice sa sn sc)).heap[w.heap.size]?=some (.cells #[.slice sa sn sc] 25 (0,0)):=by rw[heap_setCell_same wk w.heap.size 0 _ _ _ xR];rfl
  have y0:=Ab z7 0;simp only[List.getElem?_toArray,List.getElem?_cons_zero]at y0;clear z7 xR;go_wp2;exact bodyPost_ret (v:=.tuple #[.agg #[.slice sa sn sc],.slice la ln lc]) (by simp[results,Tryz.results37,go_sem,y0]) rfl HOK.out
theorem Nw.box{T:List PBlock}{u:Value}{a:Option Addr}(h:Nw T v W)(hx:Ar W X #[.slice a n c] U):Nw T v (W.setCell ⟨X,0,none⟩ u):=by
 obtain⟨bs,h1,h2,h3⟩:=h;exact⟨bs,h1,h2.far (Abb hx h2) ⟨rfl,rfl,rfl,by simp,fun i _ hi=>heap_setCell_other W ⟨X,0,none⟩ i _ (fun e=>hi (by simp[e]))⟩,h3⟩
theorem V0(a:Option Addr)(len cap:Nat)(w:World)(hc:Code w.heap.size w a len cap):Calls Tryz.prog 34 #[.slice a len cap] w fun e w'=>Mw w e w':=by
 obtain⟨b0,c0,c1⟩:=Z7 w (.slice none 0 0) (.slice none 0 0);have s1:((w.alloc (.cells #[.slice none 0 0] 25)).alloc (.cells #[.slice none 0 0] 25)).heap.size=w.heap.size+2:=by simp
 have z0:Ar ((w.alloc (.cells #[.slice none 0 0] 25)).alloc (.cells #[.slice none 0 0] 25)) w.heap.size #[.slice none 0 0] 25:=by
  have b1:=(Below.refl (w.alloc (.cells #[.slice none 0 0] 25)).heap.size (w.alloc (.cells #[.slice none 0 0] 25))).alloc (Nat.le_refl _) (.cells #[.slice none 0 0] 25);exact(b1.block w.heap.size (by simp)).trans (Al w _)
 have z1:Ar ((w.alloc (.cells #[.slice none 0 0] 25)).alloc (.cells #[.slice none 0 0] 25)) (w.heap.size+1) #[.slice none 0 0] 25:=by
  have:=Al (w.alloc (.cells #[.slice none 0 0] 25)) (.cells #[.slice none 0 0] 25);rw[World.size_alloc]at this;exact this
 clear c0 c1;generalize hw1:(w.alloc (.cells #[.slice none 0 0] 25)).alloc (.cells #[.slice none 0 0] 25)=w1 at *;have HD:=Mx a len cap w1 (hc.below b0 (by omega));clear hc;go_enter Tryz.func34,Tryz.ntmps34;go_wp2_with (go_at_call 10;(try rw[hw1]);refine HD.mono ?_)
 rintro e w3 ⟨sa,sn,sc,sb,sm,sd,TA,TB,rfl,⟨hia,hib⟩,b3⟩;have y0:Ar w3 w.heap.size #[.slice none 0 0] 25:=(b3.block w.heap.size (by omega)).trans z0;have y1:Ar w3 (w.heap.size+1) #[.slice none 0 0] 25:=(b3.block (w.heap.size+1) (by omega)).trans z1;have g0:w3.grownBy (w3.setCell ⟨w.heap.size,0,none⟩ (.slice sa sn sc)) (some w.heap.size):=⟨rfl,rfl,rfl,by simp,fun i _ hi=>heap_setCell_other w3 ⟨w.heap.size,0,none⟩ i _ (fun e=>hi (by simp[e]))⟩;have g1:(w3.setCell ⟨w.heap.size,0,none⟩ (.slice sa sn sc)).grownBy ((w3.setCell ⟨w.heap.size,0,none⟩ (.slice sa sn sc)).setCell ⟨w.heap.size+1,0,none⟩ (.slice sb sm sd)) (some (w.heap.size+1)):=⟨rfl,rfl,rfl,by simp,fun i _ hi=>heap_setCell_other _ ⟨w.heap.size+1,0,none⟩ i _ (fun e=>hi (by simp[e]))⟩;have hz:=b3.size;have x0:Ar (w3.setCell ⟨w.heap.size,0,none⟩ (.slice sa sn sc)) w.heap.size #[.slice sa sn sc] 25:=by unfold Ar;rw[heap_setCell_same w3 w.heap.size 0 _ _ _ y0];rfl
 have x1:Ar (w3.setCell ⟨w.heap.size,0,none⟩ (.slice sa sn sc)) (w.heap.size+1) #[.slice none 0 0] 25:=(g0.block (w.heap.size+1) (by omega) (by intro e;have:=Option.some.inj e;omega)).trans y1;have v0:Ar ((w3.setCell ⟨w.heap.size,0,none⟩ (.slice sa sn sc)).setCell ⟨w.heap.size+1,0,none⟩ (.slice sb sm sd)) w.heap.size #[.slice sa sn sc] 25:=(g1.block w.heap.size (by simp;omega) (by intro e;have:=Option.some.inj e;omega)).trans x0;have v1:Ar ((w3.setCell ⟨w.heap.size,0,none⟩ (.slice sa sn sc)).setCell ⟨w.heap.size+1,0,none⟩ (.slice sb sm sd)) (w.heap.size+1) #[.slice sb sm sd] 25:=by unfold Ar;rw[heap_setCell_same _ (w.heap.size+1) 0 _ _ _ x1];rfl
 have b03:=b0.trans (b3.mono (by omega));have b04:=Bu b03 b03.size (Nat.le_refl _) g0;have HOK:=Aa (show Mw w (.returned (.tuple #[.agg #[.slice sa sn sc],.agg #[.slice sb sm sd]])) ((w3.setCell ⟨w.heap.size,0,none⟩ (.slice sa sn sc)).setCell ⟨w.heap.size+1,0,none⟩ (.slice sb sm sd)) from⟨sa,sn,sc,sb,sm,sd,TA,TB,rfl,⟨(hia.box y0).box x1,(hib.box y0).box x1⟩,Bu b04 b04.size (by omega) g1⟩);have e0:=Ab y0 0;have f0:=Ag y0 0;have e1:=Ab x1 0;have f1:=Ag x1 0;have t0:=Ab v0 0;have t1:=Ab v1 0;simp only[List.getElem?_toArray,List.getElem?_cons_zero]at e0 e1 t0 t1;clear HD hia hib b3 y0 y1 g0 g1 x0 x1 v0 v1 b03 b04 z0 z1 b0;go_wp2;exact bodyPost_ret (v:=.tuple #[.agg #[.slice sa sn sc],.agg #[.slice sb sm sd]]) (by simp[results,Tryz.results34,go_sem,t0,t1]) rfl HOK.out
end Go.Proofs.YtpdahhnjhggocaaGreatDoor
