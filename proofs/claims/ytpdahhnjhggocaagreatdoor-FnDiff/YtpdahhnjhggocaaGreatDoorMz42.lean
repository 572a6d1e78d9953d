import Derived.Test.YtpdahhnjhggocaaGreatDoorMz39
import Derived.Lib.Overlaps
import Derived.Lib.AppendZerosOnto
import Derived.Laws.IdiomCopy
import Derived.OwnWalk
namespace Go.Proofs.YtpdahhnjhggocaaGreatDoor
open Go.RowKit
set_option maxHeartbeats 16000000
set_option maxRecDepth 100000
variable {P:Program}{o:Oper}{a:Act}{K:Act → World → Prop}{Q:Exit → Act → World → Prop}{v' v:Value}{w' w:World}{ops:Array Oper}{B n:Nat}{D:List BAt}
theorem Hd(w:World)(dT sT ty elem:TypeId)(i:TypeInfo)(b o dLen dCap:Nat)(a:Addr)(sLen sCap n:Nat)(cs:List Value)
  (hu:P.underlying dT=some (.slice elem)) (hq:P.info? elem=some i) (hm:Nat.min sLen dLen=n) (hn:cs.length=n * i.size)
  (hsrc:∀ j v,cs[j]?=some v→w.cell? (a.add j)=some v) (hc:∀ j,j<cs.length→(w.cell? ⟨b,o+j,none⟩).isSome=true∧w.frozen? ⟨b,o+j,none⟩=false) (h1:∀ v∈cs,v.oneCell'=true) :
  (Builtin.copy_ #[dT,sT] ty #[.slice (some ⟨b,o,none⟩) dLen dCap,.slice (some a) sLen sCap]).run P w=.ok (goInt n) (w.setCells b o cs):=by
 have hl:=run_loadCells_list (P:=P) w a cs hsrc;have hst:=run_storeCells_cells (P:=P) b o cs 0 w (by simpa using fun j hj=>(hc j hj).1) (by simpa using fun j hj=>(hc j hj).2) h1;simp[Builtin.copy_,run_underlying hu,Builtin.lenOf,Builtin.firstCells,sizeOf,typeInfo,hq,hm,← hn,hl,hst]
theorem Sx(P:Program)(w:World)(d s:Operand)(t t':TypeId)
  (ho:o.op=.call { callee:=.builtin .copy,args:=#[d,s],argTypes:=#[t,t'] }) (v u:Value) (hd:a.eval d=v) (hs:a.eval s=u)
  (hr:(Builtin.copy_ #[t,t'] o.type #[v,u]).run P w=.ok v' w') (h:K (a.put o.dst v') w'):o.wp P a w K Q:=by
 unfold Oper.wp execOp;simp only[ho,resolve,invoke,builtin,Sem.run_bind,Sem.run_pure,Result.andThen_ok,List.map_toArray,List.map_cons,List.map_nil,hd,hs,hr];exact h
theorem Ll(w:World){rest:List Oper}(hgd:o.guard=none)(d s:Operand)(t t':TypeId)
  (ho:o.op=.call { callee:=.builtin .copy,args:=#[d,s],argTypes:=#[t,t'] }) (v u:Value) (hd:a.eval d=v) (hs:a.eval s=u)
  (hr:(Builtin.copy_ #[t,t'] o.type #[v,u]).run P w=.ok v' w') (h:wpList P ops Q rest (a.put o.dst v') w'):wpList P ops Q (o::rest) a w :=
 wpList_plain hgd fun _ hK=>Sx P w d s t t' ho v u hd hs hr (hK _ _ h)
theorem Of{E:Prop}
  (hg:o.guard=none) (d x:Operand) (dT sT:TypeId) (hop:o.op=Op.call { callee:=Callee.builtin Builtin.copy,args:=#[d,x],argTypes:=#[dT,sT] })
  (v u:Value) (hd:a.eval d=v) (hx:a.eval x=u) (hr:(Builtin.copy_ #[dT,sT] o.type #[v,u]).run P w=.ok v' w') (hK:K (a.put o.dst v') w') :
  if Region.wanted o (yielded ops a.tmps)=true then Oper.wp P o a w K Q else E:=by
 rw[if_pos (by simp[Region.wanted,hg])];exact Sx P w d x dT sT hop v u hd hx hr hK
def Hw(B n:Nat)(v:Value)(xs:List Value)(w:World)(e:Ending)(w':World):Prop:=∃ ao cap,e=.returned (.slice ao (n+1) cap)∧w'.ownsRow B 46 3 (.slice ao (n+1) cap) (n+1) xs∧w.grownBy w' v.ownBlock∧((Value.slice ao (n+1) cap).ownBlock=v.ownBlock∨(Value.slice ao (n+1) cap).ownBlock=some w.heap.size)
theorem Aae{vb:Nat}{b:BAt}(hB:B≤w.heap.size)(h:w.ownsRow B 46 3 v n (D.flatMap BAt.cells))(hn:D.length=n)(hl:n≤1048576)(hv:Ar w vb b.cells.toArray 46)(hf:∃ a m c,b.v=.slice a m c):
  Calls Tryz.prog 223 #[v,.int .i64 (n:Int),.slice (some ⟨vb,0,none⟩) 1 1] w fun e w'=>Hw B n v ((D++[b]).flatMap BAt.cells) w e w':=by
 obtain⟨i0,hi,hz0,hz1,hz2⟩:=info_parts Cn;obtain⟨va,vc,rfl,hvf⟩:=Ai h;have hcap:=(Bo h).cap;obtain⟨fa,fm,fc,hf⟩:=hf;have hrow:=Aa (show An w (.slice (some ⟨vb,0,none⟩) 1 1) 1 3 b.cells from⟨rfl,some ⟨vb,0,none⟩,1,rfl,⟨Nat.le_refl _,by unfold maxLen;omega⟩,.inr ⟨vb,0,rfl,fun j u hj=>by rw[Ab hv,Nat.zero_add,List.getElem?_toArray];exact hj⟩⟩);have h1:=Aa (show ∀ y∈b.cells,y.oneCell'=true from by intro y hy;unfold BAt.cells at hy;rw[hf]at hy;simp at hy;rcases hy with rfl | rfl | rfl <;> rfl)
 have OWN:=Aa h;have m0:(0:Int)≤(n:Int):=by omega
 have m1:(n:Int)≤(vc:Int):=by have:=hcap.1;omega
 have m2:n≤vc:=hcap.1;have hfl:(D++[b]).flatMap BAt.cells=D.flatMap BAt.cells++b.cells:=by simp
 clear h hv hf hvf hn;by_cases hvn:vc=n
 ·subst hvn;go_enter Tryz.func223,Tryz.ntmps223;go_wp2_with (at_builtin;refine Be (by rfl) _ _ 23 (by rfl) B 46 i0 _ 3 56 Tryz.underlying23 hi hz0 hz1 hz2 rfl (by decide) _ _ _ (by rfl) OWN.out _ 1 _ (by rfl) hrow.out h1.out ?c3 ?c4 hB ?_)
  case c3=>unfold maxLen;omega
  case c4=>omega
  intro ao cap w' ho hg hv;have HP:=Aa (show Hw B vc (.slice va vc vc) ((D++[b]).flatMap BAt.cells) w (.returned (.slice ao (vc+1) cap)) w' from⟨ao,cap,rfl,by rw[hfl];exact ho,hg,hv⟩);clear ho hg hv hrow h1 OWN hfl;go_wp2;exact bodyPost_ret (v:=.slice ao (vc+1) cap) (by simp[results,Tryz.results223,go_sem]) rfl HP.out
 ·go_enter Tryz.func223,Tryz.ntmps223;go_wp2_with (at_builtin;refine Be (by rfl) _ _ 23 (by rfl) B 46 i0 _ 3 56 Tryz.underlying23 hi hz0 hz1 hz2 rfl (by decide) _ _ _ (by rfl) OWN.out _ 1 _ (by rfl) hrow.out h1.out ?c3 ?c4 hB ?_)
  case c3=>unfold maxLen;omega
  case c4=>omega
  intro ao cap w' ho hg hv;have HP:=Aa (show Hw B n (.slice va n vc) ((D++[b]).flatMap BAt.cells) w (.returned (.slice ao (n+1) cap)) w' from⟨ao,cap,rfl,by rw[hfl];exact ho,hg,hv⟩);clear ho hg hv hrow h1 OWN hfl;go_wp2;exact bodyPost_ret (v:=.slice ao (n+1) cap) (by simp[results,Tryz.results223,go_sem]) rfl HP.out
variable {g i:Nat}{xs:List Value}{cs:Array Value}{T:List BAt}
theorem Aaf{cap:Nat}(h:w.ownsRow B 46 3 (.slice (some ⟨g,0,none⟩) n cap) n xs)(hc:n+1≤cap):∃ ys,ys.length=3∧w.ownsRow B 46 3 (.slice (some ⟨g,0,none⟩) (n+1) cap) (n+1) (xs++ys):=by
 obtain⟨hl,h⟩:=h;rcases h with ⟨h,_⟩ | ⟨g',cap',cur,hv,hb,hg,hn,hm,hs,ht⟩
 ·cases h
 ·cases hv
  have hlen:cur.toList.length=cap * 3:=by simpa using hs
  refine⟨(cur.toList.drop (n * 3)).take 3,by rw[List.length_take,List.length_drop,hlen];omega,?_,.inr ⟨g,cap,cur,rfl,hb,hg,hc,hm,hs,?_⟩⟩
  ·rw[List.length_append,hl,List.length_take,List.length_drop,hlen];omega
  ·rw[← ht,show (n+1) * 3=n * 3+3 by omega,List.take_add]
theorem Yb{T:TypeId}(h:w.heap[g]?=some (.cells cs T (0,0))):w.shape? g=some (T,cs.size):=by
 unfold World.shape?;rw[h]
theorem Acu{cap:Nat}(h:w.ownsRow B 46 3 (.slice (some ⟨g,0,none⟩) n cap) n xs):∃ cur:Array Value,w.heap[g]?=some (.cells cur 46 (0,0))∧cur.size=cap * 3:=by
 rcases h.2 with ⟨h,_⟩ | ⟨g',cap',cur,hv,_,hg,_,_,hs,_⟩
 ·cases h
 ·cases hv;exact⟨cur,hg,hs⟩
theorem Vy{cap vb:Nat}{b:BAt}(h:w.ownsRow B 46 3 (.slice (some ⟨g,0,none⟩) n cap) n ((D++T).flatMap BAt.cells))(hn:(D++T).length=n)(hD:D.length=i)(hlt:i<n)(hroom:n+1≤cap)(hl:n≤1048576)(hv:Ar w vb b.cells.toArray 46)(hne:vb≠g)(hf:∃ a m c,b.v=.slice a m c)(hfo:∀ y∈D++T,∃ a m c,y.v=.slice a m c):
  Calls Tryz.prog 223 #[.slice (some ⟨g,0,none⟩) n cap,.int .i64 (i:Int),.slice (some ⟨vb,0,none⟩) 1 1] w fun e w'=>Hw B n (.slice (some ⟨g,0,none⟩) n cap) ((D++b::T).flatMap BAt.cells) w e w':=by
 obtain⟨i0,hi,hz0,hz1,hz2⟩:=info_parts Cn;have hcap:n≤cap∧cap≤maxLen:=(Bo h).cap;have hmx:cap≤9223372036854775807:=hcap.2;have hTl:T.length=n - i:=by simp at hn;omega
 have hnews:(T.flatMap BAt.cells).length=(n - i) * 3:=by rw[By BAt.cells 3 BAt.len,hTl]
 have hDl:(D.flatMap BAt.cells).length=i * 3:=by rw[By BAt.cells 3 BAt.len,hD]
 obtain⟨fa,fm,fc,hf⟩:=hf;have H1T:=Fs (bs:=T) (fun y hy=>hfo y (by simp[hy]));have H1b:∀ y∈b.cells,y.oneCell'=true:=by intro y hy;unfold BAt.cells at hy;rw[hf]at hy;simp at hy;rcases hy with rfl | rfl | rfl <;> rfl
 obtain⟨ys,hyl,h0⟩:=Aaf h hroom;have hE:(D++T).flatMap BAt.cells++ys=(D.flatMap BAt.cells++(T.flatMap BAt.cells++ys).take 3)++(T.flatMap BAt.cells++ys).drop 3++[]:=by
  rw[List.append_nil,List.append_assoc,List.take_append_drop,List.flatMap_append,List.append_assoc]
 have hTy:(T.flatMap BAt.cells++ys).length=(n - i) * 3+3:=by rw[List.length_append,hnews,hyl]
 obtain⟨xs1,ho1,hg1,hx1⟩:=Ci (T.flatMap BAt.cells) ((i+1) * 3) w.drew _ (show w.drew.ownsRow B 46 3 (.slice (some ⟨g,0,none⟩) (n+1) cap) (n+1) _ from h0);have e1:=hx1 _ _ _ hE (by rw[List.length_append,hDl,List.length_take,hTy];omega) (by rw[List.length_drop,hTy,hnews];omega);obtain⟨xs2,ho2,hg2,hx2⟩:=Ci b.cells (i * 3) _ _ ho1;have e2:=hx2 (D.flatMap BAt.cells) ((T.flatMap BAt.cells++ys).take 3) (T.flatMap BAt.cells) (by rw[e1];simp) hDl (by rw[List.length_take,hTy,BAt.len];omega);have hgr:=A1 hg1 hg2;have TH1:=Cx h0 ((i+1) * 3) ((n - i) * 3) (by omega);have TH2:=Cx ho1 (i * 3) 3 (by omega);have SRC:∀ t u,(T.flatMap BAt.cells)[t]?=some u→w.cell? ⟨g,i * 3+t,none⟩=some u:=fun t u hu=>by
  have:=h.cells rfl (i * 3+t) u (by rw[List.flatMap_append,List.getElem?_append_right (by rw[hDl];omega),hDl,Nat.add_sub_cancel_left];exact hu);simpa [I5] using this
 have hvl:vb<w.heap.size:=(Array.getElem?_eq_some_iff.1 (show w.heap[vb]?=_ from hv)).1;have hv1:Ar (w.drew.setCells g ((i+1) * 3) (T.flatMap BAt.cells)) vb b.cells.toArray 46:=(hg1.block vb hvl (by intro e;exact hne (Option.some.inj e))).trans hv;have hcp1:∀ ty dc sc,(Builtin.copy_ #[23,23] ty #[.slice (some ⟨g,(i+1) * 3,none⟩) (n - i) dc,.slice (some ⟨g,i * 3,none⟩) (n+1 - i) sc]).run Tryz.prog w.drew=.ok (goInt ((n - i:Nat):Int)) (w.drew.setCells g ((i+1) * 3) (T.flatMap BAt.cells)):=fun ty dc sc =>
  Hd w.drew _ _ ty _ i0 g ((i+1) * 3) (n - i) dc ⟨g,i * 3,none⟩ (n+1 - i) sc (n - i) _ Tryz.underlying23 hi (by simp only[Nat.min_def];split <;> omega) (by rw[hz1];exact hnews) (fun j v hj=>by rw[I5];exact SRC j v hj) (fun j hj=>TH1 j (by rw[← hnews];exact hj)) H1T
 have hcp2:∀ ty dc,(Builtin.copy_ #[23,23] ty #[.slice (some ⟨g,i * 3,none⟩) (n+1 - i) dc,.slice (some ⟨vb,0,none⟩) 1 1]).run Tryz.prog (w.drew.setCells g ((i+1) * 3) (T.flatMap BAt.cells))=.ok (goInt 1) ((w.drew.setCells g ((i+1) * 3) (T.flatMap BAt.cells)).setCells g (i * 3) b.cells):=fun ty dc =>
  Hd _ _ _ ty _ i0 g (i * 3) (n+1 - i) dc ⟨vb,0,none⟩ 1 1 1 _ Tryz.underlying23 hi (by simp only[Nat.min_def];split <;> omega) (by rw[hz1];rfl) (fun j v hj=>by rw[I5,Nat.zero_add,Ab hv1,List.getElem?_toArray];exact hj) (fun j hj=>TH2 j hj) H1b
 obtain⟨cur,hcur,hcs⟩:=Acu h;have hov:∀ lb cb,(callFunc 244 #[.slice (some ⟨vb,0,none⟩) 1 1,.slice (some ⟨g,(i+1) * 3,none⟩) lb cb]).run Tryz.prog w=.ok (.value (.bool false)) w:=fun lb cb=>by
  rw[run_callFunc_extern Tryz.func244 (by kernel_rfl) (by kernel_rfl) (by kernel_rfl) (e:=Extern.SlicesOverlaps.overlaps #[23,23] #[4]) (by kernel_rfl),
   Lib.run_overlaps_apart w 23 4 46 Tryz.underlying23 3 (fun w=>by simp[Go.sizeOf,typeInfo,hi,hz1]) ⟨vb,0,none⟩ ⟨g,(i+1) * 3,none⟩ 1 1 lb cb hne _ _ _ _ (Yb hv) (Yb hcur) (by rw[hcs];omega) (Ag hv _) (Ag hv _)]
  rfl
 have HP:=Aa (show Hw B n (.slice (some ⟨g,0,none⟩) n cap) ((D++b::T).flatMap BAt.cells) w (.returned (.slice (some ⟨g,0,none⟩) (n+1) cap)) ((w.drew.setCells g ((i+1) * 3) (T.flatMap BAt.cells)).setCells g (i * 3) b.cells) from⟨_,_,rfl,by rw[show (D++b::T).flatMap BAt.cells=D.flatMap BAt.cells++b.cells++T.flatMap BAt.cells by simp,← e2];exact ho2,⟨hgr.os,hgr.tape,hgr.output,hgr.size,hgr.block⟩,.inl rfl⟩);have mixed:Tryz.prog.follows .mixedOrders=true:=by kernel_rfl
 have m0:(0:Int)≤(i:Int):=by omega
 have m1:(i:Int)≤(n:Int):=by omega
 have m2:(n:Int)≤(cap:Int):=by omega
 have m3:¬ ((i:Int)=(n:Int)):=by omega
 have m4:((i:Int) == (n:Int))=false:=by simpa using m3
 have m5:¬ ((cap:Int)<(n:Int)+1):=by omega
 have m6:(n:Int)+1≤(cap:Int):=by omega
 have m7:(0:Int)≤(i:Int)+1:=by omega
 have m8:(0:Int)≤(n:Int)+1:=by omega
 have m9:((i:Int)+1).toNat=i+1:=by omega
 have m10:((n:Int)+1).toNat=n+1:=by omega
 have m11:¬ (cap=i+1):=by omega
 have m12:¬ (cap=i):=by omega
 have m13:(i:Int)≤(n:Int)+1:=by omega
 have m14:(i:Int)+1≤(n:Int)+1:=by omega
 have m15:(i:Int)≤(cap:Int):=by omega
 have m16:¬ (i=n):=by omega
 have hw1:IntKind.i64.wrap ((i:Int)+1)=(i:Int)+1:=by rw[IntKind.wrap_i64];omega
 clear h h0 ho1 ho2 hg1 hg2 hx1 hx2 e1 e2 hE hTy hyl TH1 TH2 SRC hv1 hcur hcs hgr H1T H1b hnews hDl hTl hn hD hf hfo hv;generalize hW1:w.drew.setCells g ((i+1) * 3) (T.flatMap BAt.cells)=W1 at *;generalize hW2:W1.setCells g (i * 3) b.cells=W2 at *;go_enter Tryz.func223,Tryz.ntmps223;go_wp2_with (simp only[hov])
 go_region_law_o (refine Of rfl _ _ 23 23 rfl _ _ (by simp[Act.eval,Act.put]) (by simp[Act.eval,Act.put]) (hcp1 _ _ _) ?_)
 go_wp2_with (at_builtin;refine Ll _ rfl _ _ 23 23 rfl _ _ rfl rfl (hcp2 _ _) ?_)
 exact bodyPost_ret (v:=.slice (some ⟨g,0,none⟩) (n+1) cap) (by simp[results,Tryz.results223,go_sem]) rfl HP.out
theorem Yc{cap vb:Nat}{b:BAt}(h:w.ownsRow B 46 3 (.slice (some ⟨g,0,none⟩) n cap) n ((D++T).flatMap BAt.cells))(hn:(D++T).length=n)(hD:D.length=i)(hlt:i<n)(hB:B≤w.heap.size)(hroom:cap<n+1)(hl:n≤1048576)(hv:Ar w vb b.cells.toArray 46)(_:vb≠g)(hf:∃ a m c,b.v=.slice a m c)(hfo:∀ y∈D++T,∃ a m c,y.v=.slice a m c):
  Calls Tryz.prog 223 #[.slice (some ⟨g,0,none⟩) n cap,.int .i64 (i:Int),.slice (some ⟨vb,0,none⟩) 1 1] w fun e w'=>Hw B n (.slice (some ⟨g,0,none⟩) n cap) ((D++b::T).flatMap BAt.cells) w e w':=by
 obtain⟨i0,hi,hz0,hz1,hz2⟩:=info_parts Cn;have hcap:n≤cap∧cap≤maxLen:=(Bo h).cap;have hmx:cap≤9223372036854775807:=hcap.2;have hTl:T.length=n - i:=by simp at hn;omega
 have hnews:(T.flatMap BAt.cells).length=(n - i) * 3:=by rw[By BAt.cells 3 BAt.len,hTl]
 have hDl:(D.flatMap BAt.cells).length=i * 3:=by rw[By BAt.cells 3 BAt.len,hD]
 obtain⟨fa,fm,fc,hf⟩:=hf;have H1T:=Fs (bs:=T) (fun y hy=>hfo y (by simp[hy]));have H1b:∀ y∈b.cells,y.oneCell'=true:=by intro y hy;unfold BAt.cells at hy;rw[hf]at hy;simp at hy;rcases hy with rfl | rfl | rfl <;> rfl
 have hcn:cap=n:=by omega
 subst hcn;have hN0:0<cap:=by omega
 have hvl:vb<w.heap.size:=(Array.getElem?_eq_some_iff.1 (show w.heap[vb]?=_ from hv)).1;have hgl:g<w.heap.size:=(h.lt g rfl).2;have SRC:∀ t u,(T.flatMap BAt.cells)[t]?=some u→w.cell? ⟨g,i * 3+t,none⟩=some u:=fun t u hu=>by
  have:=h.cells rfl (i * 3+t) u (by rw[List.flatMap_append,List.getElem?_append_right (by rw[hDl];omega),hDl,Nat.add_sub_cancel_left];exact hu);simpa [I5] using this
 have hold:(Builtin.firstCells i0.size i (.slice (some ⟨g,0,none⟩) i cap)).run Tryz.prog w.drew=.ok (D.flatMap BAt.cells).toArray w.drew:=by
  rw[hz1];exact run_firstCells_some w.drew 3 i ⟨g,0,none⟩ i cap (D.flatMap BAt.cells) hDl (fun j v hj=>by
   have:=h.cells rfl j v (by rw[List.flatMap_append,List.getElem?_append_left (Array.getElem?_eq_some_iff.1 (by rw[List.getElem?_toArray];exact hj)).1];exact hj);exact this)
 have hik:i+(cap+1 - i)=cap+1:=by omega
 obtain⟨Z,hZ⟩:∃ Z,Z=(Value.agg #[.string ⟨#[]⟩,.string ⟨#[]⟩,.slice none 0 0]).cells:=⟨_,rfl⟩;have hkk:(cap:Int)+1 - (i:Int)=((cap+1 - i:Nat):Int):=by omega
 have hrz:∀ ty,(Builtin.append_ #[23,3] ty #[.slice (some ⟨g,0,none⟩) i cap,.int .i64 ((cap:Int)+1 - (i:Int))]).run Tryz.prog w=.ok (.slice (some ⟨w.heap.size,0,none⟩) (cap+1) (grownCap w (cap+1) cap 46)) (w.drew.alloc (.cells ((D.flatMap BAt.cells).toArray++Builtin.zeroCells Z (cap+1 - i)++Builtin.zeroCells Z (grownCap w (cap+1) cap 46 - (cap+1))) 46)):=fun ty=>by
  have hh:=Lib.run_append_grow_zeros w 23 3 ty 46 i0 _ .i64 .i64 Tryz.underlying23 Tryz.underlying3 hi hz0 (some ⟨g,0,none⟩) i cap (D.flatMap BAt.cells) hold (cap+1 - i) (by omega) (by omega) (by omega) (by omega) (by rw[hz2];omega) (by rw[hz2,hik];exact growslice_fits hroom (by omega));rw[hik]at hh;rw[hkk,hZ];exact hh
 have hGn:cap+1≤grownCap w (cap+1) cap 46:=grownCap_ge w _ _ _;have hGm:grownCap w (cap+1) cap 46≤maxLen:=grownCap_le_maxLen w (cap+1) cap 46 (by unfold maxLen;omega);have hzs:∀ k,(Builtin.zeroCells Z k).size=k * 3:=fun k=>by rw[hZ];simp[Builtin.zeroCells,Value.cells]
 generalize grownCap w (cap+1) cap 46=G at *;obtain⟨ZA,hZA⟩:∃ ZA,ZA=(Builtin.zeroCells Z (cap+1 - i)).toList:=⟨_,rfl⟩;have hZl:ZA.length=(cap+1 - i) * 3:=by rw[hZA,Array.length_toList,hzs]
 obtain⟨ROW,hROW⟩:∃ ROW,ROW=(D.flatMap BAt.cells).toArray++Builtin.zeroCells Z (cap+1 - i)++Builtin.zeroCells Z (G - (cap+1)):=⟨_,rfl⟩;have hRs:ROW.size=G * 3:=by rw[hROW];simp only[Array.size_append,hzs,List.size_toArray,hDl];omega
 have hRt:ROW.toList.take ((cap+1) * 3)=D.flatMap BAt.cells++ZA:=by
  rw[hROW,Array.toList_append,Array.toList_append,← hZA,show (cap+1) * 3=(D.flatMap BAt.cells++ZA).length by rw[List.length_append,hDl,hZl];omega];exact List.take_left
 have own0:(w.alloc (.cells ROW 46)).drew.ownsRow B 46 3 (.slice (some ⟨w.heap.size,0,none⟩) (cap+1) G) (cap+1) (D.flatMap BAt.cells++ZA):=⟨by rw[List.length_append,hDl,hZl];omega,.inr ⟨w.heap.size,G,ROW,rfl,hB,Al w _,hGn,hGm,hRs,hRt⟩⟩;have hrz1:∀ ty,(Builtin.append_ #[23,3] ty #[.slice (some ⟨g,0,none⟩) i cap,.int .i64 ((cap:Int)+1 - (i:Int))]).run Tryz.prog w=.ok (.slice (some ⟨w.heap.size,0,none⟩) (cap+1) G) (w.alloc (.cells ROW 46)).drew:=fun ty=>by rw[hrz ty,hROW];rfl
 have ba:Below w.heap.size w (w.alloc (.cells ROW 46)).drew:=((Below.refl w.heap.size w).alloc (Nat.le_refl _) _).drew;obtain⟨xs1,ho1,hg1,hx1⟩:=Ci b.cells (i * 3) _ _ own0;have e1:=hx1 (D.flatMap BAt.cells) (ZA.take 3) (ZA.drop 3) (by rw[List.append_assoc,List.take_append_drop]) hDl (by rw[List.length_take,hZl,BAt.len];omega);have TH1:=Cx own0 (i * 3) 3 (by omega);have hv1:=hv.below ba;have hcpA:∀ ty dc,(Builtin.copy_ #[23,23] ty #[.slice (some ⟨w.heap.size,i * 3,none⟩) (cap+1 - i) dc,.slice (some ⟨vb,0,none⟩) 1 1]).run Tryz.prog (w.alloc (.cells ROW 46)).drew=.ok (goInt 1) ((w.alloc (.cells ROW 46)).drew.setCells w.heap.size (i * 3) b.cells):=fun ty dc =>
  Hd _ _ _ ty _ i0 w.heap.size (i * 3) (cap+1 - i) dc ⟨vb,0,none⟩ 1 1 1 _ Tryz.underlying23 hi (by simp only[Nat.min_def];split <;> omega) (by rw[hz1];rfl) (fun j v hj=>by rw[I5,Nat.zero_add,Ab hv1,List.getElem?_toArray];exact hj) (fun j hj=>TH1 j hj) H1b
 generalize hW1:(w.alloc (.cells ROW 46)).drew=W1 at *;have hgcell:∀ j u,w.cell? ⟨g,j,none⟩=some u→(W1.setCells w.heap.size (i * 3) b.cells).drew.cell? ⟨g,j,none⟩=some u:=fun j u hu=>by
  have h2:W1.cell? ⟨g,j,none⟩=some u:=(ba.cell (p:=⟨g,j,none⟩) hgl).trans hu;have h3:=hg1.cell_far ⟨g,j,none⟩ (show g<W1.heap.size from Nat.lt_of_lt_of_le hgl ba.size) (fun e=>by have e3:g=w.heap.size:=Option.some.inj e;omega);exact h3.trans h2
 obtain⟨xs2,ho2,hg2,hx2⟩:=Ci (T.flatMap BAt.cells) ((i+1) * 3) (W1.setCells w.heap.size (i * 3) b.cells).drew _ (show (W1.setCells w.heap.size (i * 3) b.cells).drew.ownsRow B 46 3 _ _ _ from ho1);have e2:=hx2 (D.flatMap BAt.cells++b.cells) (ZA.drop 3) [] (by rw[e1,List.append_nil]) (by rw[List.length_append,hDl,BAt.len];omega) (by rw[List.length_drop,hZl,hnews];omega);have TH2:=Cx (show (W1.setCells w.heap.size (i * 3) b.cells).drew.ownsRow B 46 3 (.slice (some ⟨w.heap.size,0,none⟩) (cap+1) G) (cap+1) xs1 from ho1) ((i+1) * 3) ((cap - i) * 3) (by omega);have hcpB:∀ ty dc sc,(Builtin.copy_ #[23,23] ty #[.slice (some ⟨w.heap.size,(i+1) * 3,none⟩) (cap - i) dc,.slice (some ⟨g,i * 3,none⟩) (cap - i) sc]).run Tryz.prog (W1.setCells w.heap.size (i * 3) b.cells).drew=.ok (goInt ((cap - i:Nat):Int)) ((W1.setCells w.heap.size (i * 3) b.cells).drew.setCells w.heap.size ((i+1) * 3) (T.flatMap BAt.cells)):=fun ty dc sc =>
  Hd _ _ _ ty _ i0 w.heap.size ((i+1) * 3) (cap - i) dc ⟨g,i * 3,none⟩ (cap - i) sc (cap - i) _ Tryz.underlying23 hi (by simp only[Nat.min_def];split <;> omega) (by rw[hz1];exact hnews) (fun j v hj=>by rw[I5];exact hgcell _ v (SRC j v hj)) (fun j hj=>TH2 j (by rw[← hnews];exact hj)) H1T
 have HP:=Aa (show Hw B cap (.slice (some ⟨g,0,none⟩) cap cap) ((D++b::T).flatMap BAt.cells) w (.returned (.slice (some ⟨w.heap.size,0,none⟩) (cap+1) G)) ((W1.setCells w.heap.size (i * 3) b.cells).drew.setCells w.heap.size ((i+1) * 3) (T.flatMap BAt.cells)) from⟨_,_,rfl,by rw[show (D++b::T).flatMap BAt.cells=D.flatMap BAt.cells++b.cells++T.flatMap BAt.cells++[] by simp,← e2];exact ho2,⟨hg2.os.trans (hg1.os.trans ba.os),hg2.tape.trans (hg1.tape.trans ba.tape),hg2.output.trans (hg1.output.trans ba.output),Nat.le_trans ba.size (Nat.le_trans hg1.size hg2.size),fun k hk _=>(hg2.block k (Nat.lt_of_lt_of_le hk (Nat.le_trans ba.size hg1.size)) (by intro e;have:=Option.some.inj e;omega)).trans ((hg1.block k (Nat.lt_of_lt_of_le hk ba.size) (by intro e;have:=Option.some.inj e;omega)).trans (ba.block k hk))⟩,.inr rfl⟩);have mixed:Tryz.prog.follows .mixedOrders=true:=by kernel_rfl
 have m0:(0:Int)≤(i:Int):=by omega
 have m1:(i:Int)≤(cap:Int):=by omega
 have m3:¬ ((i:Int)=(cap:Int)):=by omega
 have m4:((i:Int) == (cap:Int))=false:=by simpa using m3
 have m5:((cap:Int)<(cap:Int)+1):=by omega
 have m7:(0:Int)≤(i:Int)+1:=by omega
 have m8:(0:Int)≤(cap:Int)+1:=by omega
 have m9:((i:Int)+1).toNat=i+1:=by omega
 have m11:¬ (G=i+1):=by omega
 have m12:¬ (G=i):=by omega
 have m13:(i:Int)≤(cap:Int)+1:=by omega
 have m14:(i:Int)+1≤(cap:Int)+1:=by omega
 have m16:¬ (i=cap):=by omega
 have m17:¬ (cap=i):=by omega
 have hmG:G≤9223372036854775807:=hGm;have hw1:IntKind.i64.wrap ((i:Int)+1)=(i:Int)+1:=by rw[IntKind.wrap_i64];omega
 clear h own0 ho1 ho2 hg1 hg2 hx1 hx2 e1 e2 TH1 TH2 SRC hv1 H1T H1b hnews hDl hTl hn hD hf hfo hv hold hrz hROW hRs hRt hZA hZl hzs hZ hgcell ba hW1 hkk hik;generalize W1.setCells w.heap.size (i * 3) b.cells=W2 at *;generalize W2.drew.setCells w.heap.size ((i+1) * 3) (T.flatMap BAt.cells)=W3 at *;generalize w.heap.size=N at *;go_enter Tryz.func223,Tryz.ntmps223
 go_wp2_with (first
  | (at_builtin;refine Lib.wpList_append_run _ rfl _ _ _ _ rfl _ _ rfl rfl _ _ (hrz1 _) ?_)
  | (at_builtin;refine Ll _ rfl _ _ 23 23 rfl _ _ rfl rfl (hcpA _ _) ?_))
 go_region_law_o (refine Of rfl _ _ 23 23 rfl _ _ (by simp[Act.eval,Act.put]) (by simp[Act.eval,Act.put]) (hcpB _ _ _) ?_)
 go_wp2;exact bodyPost_ret (v:=.slice (some ⟨N,0,none⟩) (cap+1) G) (by simp[results,Tryz.results223,go_sem]) rfl HP.out
end Go.Proofs.YtpdahhnjhggocaaGreatDoor
