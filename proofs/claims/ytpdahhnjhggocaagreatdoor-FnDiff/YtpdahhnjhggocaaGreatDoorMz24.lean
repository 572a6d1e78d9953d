import Derived.Test.YtpdahhnjhggocaaGreatDoorMz22
import Derived.Lib.SliceRun
namespace Go.Proofs.YtpdahhnjhggocaaGreatDoor
open Go.RowKit
set_option maxHeartbeats 16000000
set_option maxRecDepth 100000
variable {w wc w2 w3 W:World}{B n g:Nat}{xs:List Value}{v vk v3 u1 u2:Value}{ws:List (List UInt8)}{r:MRow}{cs:Array Value}{ls:List LAt}
theorem Af8{e:TypeId}{size:Nat}(hn:n=0)(hx:xs.length=n * size):w.ownsRow B e size (.slice none n 0) n xs:=by
 subst hn;have:xs=[]:=by simpa using hx
 subst this;exact World.ownsRow_nil _ _ _ _
theorem Tg(h:An w v ws.length 1 (strs ws))(hl:ws.length≤1048576):Calls Tryz.prog 157 #[v] w fun e w'=>∃ ao cap,e=.returned (.slice ao ws.length cap)∧w'.ownsRow w.heap.size 9 1 (.slice ao ws.length cap) ws.length (strs ws)∧Below w.heap.size w w':=by
 obtain⟨ao,cap,rfl⟩:=h.form;have hone:=Wr ws;have hsl:(strs ws).length=ws.length:=Ev ws;generalize strs ws=xs at *;generalize ws.length=n at *;obtain⟨i0,hi,hz0,hz1,hz2⟩:=info_parts Wa;have q45:∀(w:World) (a:Option Addr) (n c n' c':Nat),(binOp .eql 52 (.slice a n c) (.slice none n' c')).run Tryz.prog w=.ok (.bool a.isNone) w:=fun w a n c n' c'=>Lib.run_eql_slice_nil w _ _ a n c n' c' Tryz.underlying52
 cases ao with
 | none =>
  have h0:n=0:=by
   obtain⟨_,ao',c',hv,_,hc⟩:=h;cases hv
   rcases hc with h0 | ⟨b,off,e,_⟩
   ·exact h0
   ·cases e
  have ho:w.ownsRow w.heap.size 9 1 (.slice none n 0) n xs:=Af8 h0 (by omega);clear h;subst h0;go_enter Tryz.func157,Tryz.ntmps157;go_wp2;go_ret;exact⟨none,0,rfl,ho,Below.refl _ _⟩
 | some a =>
  have b0:=(Below.refl w.heap.size w).alloc (Nat.le_refl _) (.cells #[] 9);have h1:=h.below b0;have hown0:=World.ownsRow_lit (base:=w.heap.size) (e:=9) (size:=1) w #[] 0 (Nat.le_refl _) (by decide) rfl;clear h;go_enter Tryz.func157,Tryz.ntmps157;go_wp2_with (at_builtin;refine Be (by rfl) _ _ 52 (by rfl) w.heap.size 9 i0 (.string ⟨#[]⟩) 1 16 Tryz.underlying52 hi hz0 hz1 hz2 rfl (by decide) _ 0 [] (by rfl) hown0 _ n xs (by rfl) h1 hone ?c3 ?c4 (by simp) ?_)
  case c3=>unfold maxLen;omega
  case c4=>omega
  intro ao' cap' w1 hown1 hg hb;have hB:=b0.grown hg (by simp) (fun k hk=>(hown0.lt k hk).1);clear h1 hown0 hb hg;go_wp2;go_ret;exact⟨ao',cap',rfl,hown1,hB⟩
theorem A8.own1(h:r.isAt B w):A8 B w [r]:=⟨fun s hs=>by rw[List.mem_singleton.1 hs];exact h,by simp⟩
theorem Lr{done:List LAt}{x:LAt}{T:TypeId}(hm:A3 B wc vk done)(hB:B≤wc.heap.size)(o2:w2.ownsRow wc.heap.size 9 1 x.v x.ws.length (strs x.ws))(b2:Below wc.heap.size wc w2)
  (hown3:w3.ownsRow B 115 2 v3 (done.length+1) (done.flatMap LAt.cells++[.string x.key,x.v])) (hgrow:(w2.alloc (.cells cs T)).grownBy w3 vk.ownBlock) (hv:v3.ownBlock=vk.ownBlock∨v3.ownBlock=some (w2.alloc (.cells cs T)).heap.size) :
  A3 B w3 v3 (done++[x])∧Below B wc w3:=by
 have m2:A8 B w2 ([x.row]++Dr vk done):=A8.join hm (A8.own1 o2) b2 hB;have m3:A8 B w2 (⟨vk,115,2,done.length,done.flatMap LAt.cells⟩::(done.map LAt.row++[x.row])):=m2.perm (by
  unfold Dr;exact List.perm_append_comm)
 have ba:=(Below.refl w2.heap.size w2).alloc (Nat.le_refl _) (.cells cs T);have m4:=m3.below ba;have m5:=m4.grow (r':=⟨v3,115,2,done.length+1,done.flatMap LAt.cells++[.string x.key,x.v]⟩) hown3 hgrow hv;refine⟨?_,?_⟩
 ·unfold A3 Dr;rw[List.map_append,List.flatMap_append,List.length_append];exact m5
 ·have hz:=b2.size;exact((b2.mono hB).trans (ba.mono (by omega))).grown hgrow (by simp;omega) (fun k hk=>(A8.lt m3 (List.mem_cons_self ..) hk).1)
theorem N2{done:List BAt}{x:BAt}{T:TypeId}(hm:As B wc vk done)(hB:B≤wc.heap.size)(o2:A3 wc.heap.size w2 x.v x.ls)(b2:Below wc.heap.size wc w2)
  (hown3:w3.ownsRow B 46 3 v3 (done.length+1) (done.flatMap BAt.cells++[.string x.kind,.string x.name,x.v])) (hgrow:(w2.alloc (.cells cs T)).grownBy w3 vk.ownBlock) (hv:v3.ownBlock=vk.ownBlock∨v3.ownBlock=some (w2.alloc (.cells cs T)).heap.size) :
  As B w3 v3 (done++[x])∧Below B wc w3:=by
 have m2:A8 B w2 (x.rows++E0 vk done):=A8.join hm o2 b2 hB;have m3:A8 B w2 (⟨vk,46,3,done.length,done.flatMap BAt.cells⟩::(done.flatMap BAt.rows++x.rows)):=m2.perm (by
  unfold E0;exact List.perm_append_comm)
 have ba:=(Below.refl w2.heap.size w2).alloc (Nat.le_refl _) (.cells cs T);have m4:=m3.below ba;have m5:=m4.grow (r':=⟨v3,46,3,done.length+1,done.flatMap BAt.cells++[.string x.kind,.string x.name,x.v]⟩) hown3 hgrow hv;refine⟨?_,?_⟩
 ·unfold As E0;rw[List.flatMap_append,List.flatMap_append,List.length_append,List.flatMap_singleton,List.flatMap_singleton];exact m5
 ·have hz:=b2.size;exact((b2.mono hB).trans (ba.mono (by omega))).grown hgrow (by simp;omega) (fun k hk=>(A8.lt m3 (List.mem_cons_self ..) hk).1)
theorem Qc{o1 o2:Nat}(hb:Below B w W)(c1:w.cell? ⟨g,o1,none⟩=some u1)(c2:w.cell? ⟨g,o2,none⟩=some u2)(hg:g<B:=by first | assumption | (simp;done) | omega):W.cell? ⟨g,o1,none⟩=some u1∧W.cell? ⟨g,o2,none⟩=some u2 :=
 ⟨(hb.cell (p:=⟨g,o1,none⟩) hg).trans c1,(hb.cell (p:=⟨g,o2,none⟩) hg).trans c2⟩
theorem Cj(w:World)(cs:Array Value)(T:TypeId)(size:Nat)(hs:cs.size=size):An (w.alloc (.cells cs T)) (.slice (some ⟨w.heap.size,0,none⟩) 1 1) 1 size cs.toList:=Bo (World.ownsRow_lit (base:=w.heap.size) (e:=T) (size:=size) w cs 1 (Nat.le_refl _) (by decide) (by omega))
theorem Fk(h:Ah w v ls)(hs:Ae ls):Calls Tryz.prog 94 #[v] w fun e w'=>∃ v' ls',e=.returned v'∧ls'.map LAt.plain=ls.map LAt.plain∧A3 w.heap.size w' v' ls'∧Below w.heap.size w w':=by
 obtain⟨ao,cap,rfl⟩:=h.1.form;have hl:=hs.1;generalize hn:ls.length=len at *;have en:=Aa hn;clear hn;obtain⟨i0,hi,hz0,hz1,hz2⟩:=info_parts Ez;go_enter Tryz.func94,Tryz.ntmps94;go_wp2;go_loopw [3,8] (fun q i wr=>∃(j:Nat) (done:List LAt),j≤len∧i=.int .i64 (j:Int)∧done.map LAt.plain=(ls.take j).map LAt.plain∧A3 w.heap.size wr q done∧Below w.heap.size w wr) (fun _ i _=>len - (intOf i).toNat)
 case atStart=>exact⟨0,[],by omega,rfl,by simp,A8.own1 (World.ownsRow_nil _ _ _ _),Below.refl _ _⟩
 case round =>
  obtain⟨j,done,hj,rfl,hdn,hm,bw⟩:=hrel;obtain⟨qa,qc,rfl,_⟩:=Ai hm.row;have hdl:done.length=j:=by have:=congrArg List.length hdn;simp at this;have:=en.out;omega
  subst hdl;by_cases hlt:done.length<len
  ·obtain⟨D,x,T,e0,hD⟩:=Br ls done.length (by have:=en.out;omega);have h5:=h.below bw;have hxm:x∈ls:=by rw[e0];simp
   have h6:=h5;rw[e0]at h6;obtain⟨g,off,rfl,c1,c2⟩:=h6.1.line;obtain⟨ax,cx,e1⟩:=An.form (h5.2 x hxm);have hstep:=Aa (show ∀ v',(done++[⟨x.key,v',x.ws⟩]:List LAt).map LAt.plain=(ls.take (done.length+1)).map LAt.plain from by
    intro v';rw[List.map_append,hdn,e0,← hD,Ch,Cq,List.map_append];rfl)
   have hx0:=h5.2 x hxm;unfold Dm at hx0;rw[e1]at hx0 c2;rw[hD]at c1 c2;have bx:=(Below.refl wr.heap.size wr).alloc (Nat.le_refl _) (.cells #[.string x.key,.slice ax x.ws.length cx] 115);have k0:=Bg (w:=wr) (cs:=#[.string x.key,.slice ax x.ws.length cx]) (T:=115) 0;have k1:=Bg (w:=wr) (cs:=#[.string x.key,.slice ax x.ws.length cx]) (T:=115) 1;simp only[List.getElem?_toArray,List.getElem?_cons_zero,List.getElem?_cons_succ]at k0 k1;have bd:=bx.drew;have HC:=Tg (hx0.below bd) (hs.2 x hxm).1;have hmd:A3 w.heap.size (wr.alloc (.cells #[.string x.key,.slice ax x.ws.length cx] 115)).drew (.slice qa done.length qc) done:=hm.below bd;have hszw:=bw.size;have hszd:w.heap.size≤(wr.alloc (.cells #[.string x.key,.slice ax x.ws.length cx] 115)).drew.heap.size:=Nat.le_trans hszw bd.size;have bwd:=bw.trans (bd.mono hszw);have HOUT:=Aa (show ∀ w2,Below (wr.alloc (.cells #[.string x.key,.slice ax x.ws.length cx] 115)).drew.heap.size (wr.alloc (.cells #[.string x.key,.slice ax x.ws.length cx] 115)).drew w2→∀ cs,(w2.alloc (.cells cs 115)).ownsRow w.heap.size 115 2 (.slice qa done.length qc) done.length (done.flatMap LAt.cells) from fun w2 b2 cs=>(Cd hmd.row b2).alloc _);have HMD:=Aa hmd;have hfar:=Aa (show ∀(w4 w3:World),w4.grownBy w3 (Value.slice qa done.length qc).ownBlock→wr.heap.size<w4.heap.size→∀ o,w3.cell? ⟨wr.heap.size,o,none⟩=w4.cell? ⟨wr.heap.size,o,none⟩ from fun w4 w3 hg hl o=>hg.cell_far _ hl (fun e=>by have:=(hm.row.lt _ e.symm).2;simp at this));have hlen:done.length+1≤1048577:=by omega
   have hB0:(0:Int)≤(done.length:Int):=by omega
   have hB1:(done.length:Int)<(len:Int):=by omega
   have kd0:(wr.alloc (.cells #[.string x.key,.slice ax x.ws.length cx] 115)).drew.cell? ⟨wr.heap.size,0,none⟩=some (.string x.key):=k0;have kd1:(wr.alloc (.cells #[.string x.key,.slice ax x.ws.length cx] 115)).drew.cell? ⟨wr.heap.size,1,none⟩=some (.slice ax x.ws.length cx):=k1;obtain⟨xk,xv,xw⟩:=x;simp only at *;clear h h5 h6 hs hdn hm hmd hx0 e0 e1 hD hxm k0 k1;go_wp2;have hWsz:(wr.alloc (.cells #[.string xk,.slice ax xw.length cx] 115)).drew.heap.size=wr.heap.size+1:=by simp
   generalize hWS:strs xw=WS at *;generalize hnw:xw.length=nw at *;have eWS:=Aa hWS;have enw:=Aa hnw;clear hWS hnw
   go_region_held3 (fun W=>W.cell? ⟨wr.heap.size,0,none⟩=some (.string xk)∧W.cell? ⟨wr.heap.size,1,none⟩=some (.slice ax nw cx))
    (first | exact⟨kd0,kd1⟩ | exact hS2 | exact hS2a | exact hS3)
    (first
      | (go_at_call 157
         refine HC.mono ?_;rintro e w2 ⟨ao1,cap1,rfl,o2,B2⟩;have hS2:=Qc B2 kd0 kd1;have BW2:=bwd.trans (B2.mono hszd);have hS2a:=Qc (B2.alloc B2.size (.cells #[.string xk,.slice ao1 nw cap1] 115)) kd0 kd1)
      | (refine A4 (by rfl) _ _ 44 (by rfl) w.heap.size 115 i0 _ 2 40 Tryz.underlying44 hi hz0 hz1 hz2 rfl (by decide) _ done.length _ (by rfl) (HOUT.out w2 B2 _) _ 1 _ (by rfl) (Cj w2 #[.string xk,.slice ao1 nw cap1] 115 2 rfl) (by intro y hy;simp at hy;rcases hy with rfl | rfl <;> rfl) (by unfold maxLen;omega) (by omega) (Nat.le_trans BW2.size (by simp)) ?_
         intro ao3 cap3 w3 o3 g3 v3;have P3:=Lr (x:=⟨xk,.slice ao1 nw cap1,xw⟩) HMD.out hszd (by simp only[enw.out,eWS.out];exact o2) B2 o3 g3 v3;have hl4:wr.heap.size<(w2.alloc (.cells #[.string xk,.slice ao1 nw cap1] 115)).heap.size:=by have:=B2.size;simp;omega
         have hS3:=And.intro ((hfar.out _ _ g3 hl4 0).trans hS2a.1) ((hfar.out _ _ g3 hl4 1).trans hS2a.2)))
   have HST:=Aa (hstep.out (.slice ao1 nw cap1));clear hstep HOUT HMD hfar hS2 hS2a hS3 o2 o3 g3 v3 HC;go_wp2;go_roundw;case rel=>exact⟨done.length+1,_,by omega,by go_num,HST.out,P3.1,bwd.trans P3.2⟩
   case measure=>simp[intOf];omega
  ·have ej:done.length=len:=by omega
   have hls:ls.take done.length=ls:=by rw[ej,← en.out,List.take_length]
   rw[hls]at hdn;have HO:=Aa hm;have HD:=Aa hdn;have hlt':¬ ((done.length:Int)<(len:Int)):=by omega
   clear h hs hm hdn hls ej;go_wp2;go_ret;first | exact⟨_,done,rfl,HD.out,HO.out,bw⟩ | exact⟨_,rfl,done,HD.out,HO.out,bw⟩
variable {w':World}
theorem Ib:(Tryz.prog.info? 93).map (fun i=>(i.zero,i.size,i.bytes))=some (some (.agg #[.int .i64 0,.string ⟨#[]⟩,.string ⟨#[]⟩,.string ⟨#[]⟩,.slice none 0 0]),5,80):=by kernel_rfl
structure A6 where
 what:Int
 kind:ByteArray
 name:ByteArray
 key:ByteArray
 v:Value
 ls:List LAt
def A6.plain(c:A6):PChange:=⟨c.what,c.kind,c.name,c.key,c.ls.map LAt.plain⟩
def A6.cells(c:A6):List Value:=[.int .i64 c.what,.string c.kind,.string c.name,.string c.key,c.v]
theorem A6.len(c:A6):c.cells.length=5:=rfl
def Dj(w:World)(v:Value)(cs:List A6):Prop:=An w v cs.length 5 (cs.flatMap A6.cells)∧∀ c∈cs,Ah w c.v c.ls
theorem Dj.below{cs:List A6}(h:Dj w v cs)(hb:Below w.heap.size w w'):Dj w' v cs:=⟨h.1.below hb,fun c hc=>(h.2 c hc).below hb⟩
def A6.rows(c:A6):List MRow:=Dr c.v c.ls
def D9(v:Value)(cs:List A6):List MRow:=⟨v,93,5,cs.length,cs.flatMap A6.cells⟩::cs.flatMap A6.rows
def Bv(B:Nat)(w:World)(v:Value)(cs:List A6):Prop:=A8 B w (D9 v cs)
theorem Bv.row{cs:List A6}(h:Bv B w v cs):w.ownsRow B 93 5 v cs.length (cs.flatMap A6.cells):=A8.head h
theorem Bv.lines{cs:List A6}(h:Bv B w v cs)(c:A6)(hc:c∈cs):A3 B w c.v c.ls:=by
 obtain⟨A,C,e⟩:=Lq A6.rows hc;have h2:A8 B w (A++(c.rows++C)):=by rw[← e];exact A8.tail h
 exact(A8.right h2).left
theorem Bv.cin{cs:List A6}(h:Bv B w v cs):Dj w v cs:=⟨Bo h.row,fun c hc=>(h.lines c hc).lin⟩
theorem Bv.below{cs:List A6}(h:Bv B w v cs)(hb:Below w.heap.size w w'):Bv B w' v cs:=A8.below h hb
theorem Js(B:Nat)(w:World):Bv B w (.slice none 0 0) []:=⟨fun r hr=>by rw[List.mem_singleton.1 hr];exact World.ownsRow_nil _ _ 93 5,by simp[D9]⟩
theorem Me{done:List A6}{x:A6}{T:TypeId}(hm:Bv B wc vk done)(hB:B≤wc.heap.size)(o2:A3 wc.heap.size w2 x.v x.ls)(b2:Below wc.heap.size wc w2)
  (hown3:w3.ownsRow B 93 5 v3 (done.length+1) (done.flatMap A6.cells++x.cells)) (hgrow:(w2.alloc (.cells cs T)).grownBy w3 vk.ownBlock) (hv:v3.ownBlock=vk.ownBlock∨v3.ownBlock=some (w2.alloc (.cells cs T)).heap.size) :
  Bv B w3 v3 (done++[x])∧Below B wc w3:=by
 have m2:A8 B w2 (x.rows++D9 vk done):=A8.join hm o2 b2 hB;have m3:A8 B w2 (⟨vk,93,5,done.length,done.flatMap A6.cells⟩::(done.flatMap A6.rows++x.rows)):=m2.perm (by
  unfold D9;exact List.perm_append_comm)
 have ba:=(Below.refl w2.heap.size w2).alloc (Nat.le_refl _) (.cells cs T);have m4:=m3.below ba;have m5:=m4.grow (r':=⟨v3,93,5,done.length+1,done.flatMap A6.cells++x.cells⟩) hown3 hgrow hv;refine⟨?_,?_⟩
 ·unfold Bv D9;rw[List.flatMap_append,List.flatMap_append,List.length_append,List.flatMap_singleton,List.flatMap_singleton];exact m5
 ·have hz:=b2.size;exact((b2.mono hB).trans (ba.mono (by omega))).grown hgrow (by simp;omega) (fun k hk=>(A8.lt m3 (List.mem_cons_self ..) hk).1)
variable {bs:List BAt}
def Qd(bs:List BAt)(kind name:ByteArray)(e:Ending):Prop:=((bs.map BAt.plain).find? (Bc kind name)=none∧e=.returned (.int .i64 (-1)))∨∃ D b T,bs=D++b::T∧(bs.map BAt.plain).find? (Bc kind name)=some b.plain∧e=.returned (.int .i64 (D.length:Int))
theorem Qe(kind name:ByteArray)(h:Aw w v bs)(hl:bs.length≤1048576):Calls Tryz.prog 52 #[.agg #[v],.string kind,.string name] w fun e w'=>Qd bs kind name e∧Below w.heap.size w w':=by
 obtain⟨ao,cap,rfl⟩:=h.1.form;have G:=(Below.refl w.heap.size w).alloc (Nat.le_refl _) (.cells #[.slice ao bs.length cap] 25);have k0:=Bg (w:=w) (cs:=#[.slice ao bs.length cap]) (T:=25) 0;simp only[List.getElem?_toArray,List.getElem?_cons_zero]at k0;have h1:=h.below G;clear h;generalize hn:bs.length=n at *;have en:=Aa hn;clear hn;go_enter Tryz.func52,Tryz.ntmps52;go_wp2;go_loop [7] (fun i=>∃ j:Nat,j≤n∧i=.int .i64 (j:Int)∧Db (bs.map BAt.plain) kind name j) (fun i=>n - (intOf i).toNat)
 case atStart=>exact⟨0,by omega,rfl,Db.zero _ _ _⟩
 case round =>
  obtain⟨j,hj,rfl,hA⟩:=hrel;by_cases hlt:j<n
  ·obtain⟨D,x,T,rfl,hD⟩:=Br bs j (by have:=en.out;omega);obtain⟨g,off,rfl,c1,c2,c3⟩:=h1.1.block;have hA2:Db (D.map BAt.plain++x.plain::T.map BAt.plain) kind name (D.map BAt.plain).length:=by rw[List.length_map,hD];simpa using hA
   have hyes:=Aa (show Bc kind name x.plain=true→Qd (D++x::T) kind name (.returned (.int .i64 (j:Int))) from fun hh=>.inr ⟨D,x,T,rfl,by simpa using hA2.hit hh,by rw[hD]⟩);have hno:=Aa (show Bc kind name x.plain=false→Db ((D++x::T).map BAt.plain) kind name (j+1) from fun hh=>by have:=hA2.succ hh;rw[List.length_map,hD]at this;simpa using this);rw[hD]at c1 c2 c3;have hd:Bc kind name x.plain=((x.kind.toList == kind.toList) && (x.name.toList == name.toList)):=rfl;rw[hd]at hyes hno;have hB0:(0:Int)≤(j:Int):=by omega
   have hB1:(j:Int)<(n:Int):=by omega
   clear h1 hA hA2 hd hD en;generalize x.kind=xk at *;generalize x.name=xn at *;cases h1:(xk.toList == kind.toList)
   ·have HN:=Aa (hno.out (by rw[h1];rfl));clear hyes hno;go_wp2;go_round
    case rel=>exact⟨j+1,by omega,by go_num,HN.out⟩
    case measure=>simp[intOf];omega
   ·cases h2:(xn.toList == name.toList)
    ·have HN:=Aa (hno.out (by rw[h1,h2];rfl));clear hyes hno;go_wp2;go_round
     case rel=>exact⟨j+1,by omega,by go_num,HN.out⟩
     case measure=>simp[intOf];omega
    ·have HN:=Aa (hyes.out (by rw[h1,h2];rfl));clear hyes hno;go_wp2;go_ret;exact⟨HN.out,G⟩
  ·obtain rfl:j=n:=by omega
   have HN:=Aa (show Qd bs kind name (.returned (.int .i64 (-1))) from .inl ⟨Db.none (by rw[List.length_map,en.out];exact hA),rfl⟩);clear h1 hA;go_wp2;go_ret;exact⟨HN.out,G⟩
theorem Je{o1 o2:Nat}(hb:Below w.heap.size w W)(c1:w.cell? ⟨g,o1,none⟩=some u1)(c2:w.cell? ⟨g,o2,none⟩=some u2):W.cell? ⟨g,o1,none⟩=some u1∧W.cell? ⟨g,o2,none⟩=some u2 :=
 ⟨(hb.cell (World.block_lt_of_cell? _ _ c1)).trans c1,(hb.cell (World.block_lt_of_cell? _ _ c2)).trans c2⟩
theorem Hh(h:Ah w v ls)(hs:Ae ls):Calls Tryz.prog 97 #[v] w fun e w'=>∃ v' ls',e=.returned v'∧ls'.map LAt.plain=ls.map LAt.plain∧A3 w.heap.size w' v' ls'∧Below w.heap.size w w':=by
 obtain⟨ao,cap,rfl⟩:=h.1.form;have hl:=hs.1;generalize hn:ls.length=len at *;have en:=Aa hn;clear hn;obtain⟨i0,hi,hz0,hz1,hz2⟩:=info_parts Ez;obtain⟨j0,hj9,hy0,hy1,hy2⟩:=info_parts Wa;have b0:=(Below.refl w.heap.size w).alloc (Nat.le_refl _) (.cells #[] 115);have hown0:=World.ownsRow_lit (base:=w.heap.size) (e:=115) (size:=2) w #[] 0 (Nat.le_refl _) (by decide) rfl;go_enter Tryz.func97,Tryz.ntmps97;go_wp2;go_loopw [3,4] (fun q i wr=>∃(j:Nat) (done:List LAt),j≤len∧i=.int .i64 (j:Int)∧done.map LAt.plain=(ls.take j).map LAt.plain∧A3 w.heap.size wr q done∧Below w.heap.size w wr) (fun _ i _=>len - (intOf i).toNat)
 case atStart=>exact⟨0,[],by omega,rfl,by simp,A8.own1 hown0,b0⟩
 case round =>
  obtain⟨j,done,hj,rfl,hdn,hm,bw⟩:=hrel;obtain⟨qa,qc,rfl,_⟩:=Ai hm.row;have hdl:done.length=j:=by have:=congrArg List.length hdn;simp at this;have:=en.out;omega
  subst hdl;by_cases hlt:done.length<len
  ·obtain⟨D,x,T,e0,hD⟩:=Br ls done.length (by have:=en.out;omega);have hxm:x∈ls:=by rw[e0];simp
   have h6:=h;rw[e0]at h6;obtain⟨g,off,rfl,C1,C2⟩:=h6.1.line;obtain⟨ax,cx,e1⟩:=An.form (h.2 x hxm);have hstep:=Aa (show ∀ v',(done++[⟨x.key,v',x.ws⟩]:List LAt).map LAt.plain=(ls.take (done.length+1)).map LAt.plain from by
    intro v';rw[List.map_append,hdn,e0,← hD,Ch,Cq,List.map_append];rfl)
   have hx0:=h.2 x hxm;unfold Dm at hx0;rw[e1]at hx0 C2;rw[hD]at C1 C2;have hone:=Wr x.ws;have hnx:x.ws.length≤1048576:=(hs.2 x hxm).1;have hszw:=bw.size;have bwd:=bw.drew;have bwa:=bwd.alloc hszw (.cells #[] 9);have hrow:=Aa (hx0.below bwa);have hownS:=World.ownsRow_lit (base:=wr.heap.size) (e:=9) (size:=1) wr.drew #[] 0 (Nat.le_refl _) (by decide) rfl;have HB2:=Aa (show ∀ w2,(wr.drew.alloc (.cells #[] 9)).grownBy w2 (some wr.heap.size)→Below wr.heap.size wr.drew w2 from fun w2 g2=>((Below.refl wr.heap.size wr.drew).alloc (Nat.le_refl _) _).grown g2 (by simp) (fun k hk=>by cases hk;exact Nat.le_refl _));have hmd:A3 w.heap.size wr.drew (.slice qa done.length qc) done:=hm.below ((Below.refl wr.heap.size wr).drew);have HOUT:=Aa (show ∀ w2,Below wr.heap.size wr.drew w2→∀ cs,(w2.alloc (.cells cs 115)).ownsRow w.heap.size 115 2 (.slice qa done.length qc) done.length (done.flatMap LAt.cells) from fun w2 b2 cs=>(Cd hmd.row b2).alloc _);have HMD:=Aa hmd;have i1:(0:Int)≤(done.length:Int):=by omega
   have i2:(done.length:Int)<(len:Int):=by omega
   have hS0:=Je bwd C1 C2;have hS1:=Je bwa C1 C2;obtain⟨xk,xv,xw⟩:=x;simp only at *;generalize hWS:strs xw=WS at *;generalize hnw:xw.length=nw at *;have eWS:=Aa hWS;have enw:=Aa hnw;clear h h6 hs hdn hm hmd hx0 e0 e1 hD hxm hWS hnw hown0 b0;go_wp2
   go_region_held3 (fun W=>W.cell? ⟨g,off+done.length * 2,none⟩=some (.string xk)∧W.cell? ⟨g,off+done.length * 2+1,none⟩=some (.slice ax nw cx))
    (first | exact hS0 | exact hS1 | exact Je BW2 C1 C2 | exact Je BW2a C1 C2 | exact Je BW3 C1 C2)
    (first
      | (refine A4 (by rfl) _ _ 52 (by rfl) wr.heap.size 9 j0 (.string ⟨#[]⟩) 1 16 Tryz.underlying52 hj9 hy0 hy1 hy2 rfl (by decide) _ 0 [] (by rfl) hownS _ nw WS (by rfl) hrow.out hone (by unfold maxLen;omega) (by omega) (by simp) ?_
         intro ao1 cap1 w2 o2 g2 v2;have B2:=HB2.out w2 g2;have BW2:=bwd.trans (B2.mono hszw);have BW2a:=BW2.alloc (Nat.le_trans hszw B2.size) (.cells #[.string xk,.slice ao1 nw cap1] 115))
      | (refine A4 (by rfl) _ _ 44 (by rfl) w.heap.size 115 i0 _ 2 40 Tryz.underlying44 hi hz0 hz1 hz2 rfl (by decide) _ done.length _ (by rfl) (HOUT.out w2 B2 _) _ 1 _ (by rfl) (Cj w2 #[.string xk,.slice ao1 nw cap1] 115 2 rfl) (by intro y hy;simp at hy;rcases hy with rfl | rfl <;> rfl) (by unfold maxLen;omega) (by omega) (Nat.le_trans hszw (Nat.le_trans B2.size (by simp))) ?_
         intro ao3 cap3 w3 o3 g3 v3;have P3:=Lr (x:=⟨xk,.slice ao1 nw cap1,xw⟩) HMD.out hszw (by simp only[enw.out,eWS.out];simpa using o2) B2 o3 g3 v3;have BW3:=bwd.trans P3.2))
   have HST:=Aa (hstep.out (.slice ao1 nw cap1));clear hstep HOUT HMD HB2 hrow hownS o2 o3 g2 g3 v2 v3;go_wp2;go_roundw;case rel=>exact⟨done.length+1,_,by omega,by go_num,HST.out,P3.1,BW3⟩
   case measure=>simp[intOf];omega
  ·have ej:done.length=len:=by omega
   have hls:ls.take done.length=ls:=by rw[ej,← en.out,List.take_length]
   rw[hls]at hdn;have HO:=Aa hm;have HD:=Aa hdn;have hlt':¬ ((done.length:Int)<(len:Int)):=by omega
   clear h hs hm hdn hls ej hown0 b0;go_wp2;go_ret;first | exact⟨_,done,rfl,HD.out,HO.out,bw⟩ | exact⟨_,rfl,done,HD.out,HO.out,bw⟩
variable {ao:Option Addr}{m:Nat}
theorem An.change{cap:Nat}{D T:List A6}{x:A6}(h:An w (.slice ao m cap) n 5 ((D++x::T).flatMap A6.cells)):∃ b off,ao=some ⟨b,off,none⟩∧w.cell? ⟨b,off+D.length * 5,none⟩=some (.int .i64 x.what)∧w.cell? ⟨b,off+D.length * 5+1,none⟩=some (.string x.kind)∧w.cell? ⟨b,off+D.length * 5+2,none⟩=some (.string x.name)∧w.cell? ⟨b,off+D.length * 5+3,none⟩=some (.string x.key)∧w.cell? ⟨b,off+D.length * 5+4,none⟩=some x.v:=by
 have hn:0<n:=by have:=h.1;rw[By _ 5 A6.len]at this;simp at this;omega
 obtain⟨b,off,ha,hc⟩:=h.at hn;refine⟨b,off,ha,?_,?_,?_,?_,?_⟩
 ·have:=hc (D.length * 5+0) (.int .i64 x.what) (by rw[D4 _ 5 A6.len _ _ _ 0 (by decide)];rfl);simpa using this
 ·have:=hc (D.length * 5+1) (.string x.kind) (by rw[D4 _ 5 A6.len _ _ _ 1 (by decide)];rfl);rw[← Nat.add_assoc]at this;exact this
 ·have:=hc (D.length * 5+2) (.string x.name) (by rw[D4 _ 5 A6.len _ _ _ 2 (by decide)];rfl);rw[← Nat.add_assoc]at this;exact this
 ·have:=hc (D.length * 5+3) (.string x.key) (by rw[D4 _ 5 A6.len _ _ _ 3 (by decide)];rfl);rw[← Nat.add_assoc]at this;exact this
 ·have:=hc (D.length * 5+4) x.v (by rw[D4 _ 5 A6.len _ _ _ 4 (by decide)];rfl);rw[← Nat.add_assoc]at this;exact this
end Go.Proofs.YtpdahhnjhggocaaGreatDoor
