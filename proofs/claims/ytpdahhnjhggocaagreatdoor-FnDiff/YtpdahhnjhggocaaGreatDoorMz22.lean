import Derived.Test.YtpdahhnjhggocaaGreatDoorMz20
import Derived.Deep.MidRow
namespace Go.Proofs.YtpdahhnjhggocaaGreatDoor
open Go.RowKit
set_option maxHeartbeats 16000000
set_option maxRecDepth 100000
variable {w w':World}{base n g B B':Nat}{v:Value}{xs:List Value}{cs:Array Value}{L:List MRow}{α β:Type}
theorem Jr{e:TypeId}{size:Nat}(h:w.ownsRow base e size v n xs)(g:Nat)(hg:g<base)(cs:Array Value):(w.setRow g cs).ownsRow base e size v n xs:=by
 refine⟨h.1,?_⟩;rcases h.2 with h2 | ⟨g',cap,cur,hv,hb,hh,hrest⟩
 ·exact Or.inl h2
 ·exact Or.inr ⟨g',cap,cur,hv,hb,by rw[setRow_other _ _ _ _ (by omega)];exact hh,hrest⟩
theorem I4{o1 o2 o3:Obj}:(((w.alloc o1).alloc o2).alloc o3).heap.size=w.heap.size+3∧(((w.alloc o1).alloc o2).alloc o3).heap[w.heap.size]?=some o1∧(((w.alloc o1).alloc o2).alloc o3).heap[w.heap.size+1]?=some o2∧(((w.alloc o1).alloc o2).alloc o3).heap[w.heap.size+2]?=some o3:=by
 refine⟨by simp,?_,?_,?_⟩
 ·rw[Cy _ _ _ (by simp;omega),Cy _ _ _ (by simp),Al]
 ·rw[Cy _ _ _ (by simp)];have:=Al (w.alloc o1) o2
  rwa [World.size_alloc]at this
 ·have:=Al ((w.alloc o1).alloc o2) o3
  rwa [World.size_alloc,World.size_alloc]at this
theorem Ab{T:TypeId}(h:w.heap[g]?=some (.cells cs T (0,0)))(j:Nat):w.cell? ⟨g,j,none⟩=cs[j]?:=by
 unfold World.cell?;rw[h];rfl
theorem Ag{T:TypeId}(h:w.heap[g]?=some (.cells cs T (0,0)))(j:Nat):w.frozen? ⟨g,j,none⟩=false:=by
 unfold World.frozen?;rw[h];simp
theorem Ci{cap size:Nat}{e:TypeId}(vs:List Value):∀(o:Nat) (w:World) (xs:List Value),w.ownsRow base e size (.slice (some ⟨g,0,none⟩) n cap) n xs→∃ ys,(w.setCells g o vs).ownsRow base e size (.slice (some ⟨g,0,none⟩) n cap) n ys∧w.grownBy (w.setCells g o vs) (some g)∧∀ A B C,xs=A++B++C→A.length=o→B.length=vs.length→ys=A++vs++C:=by
 induction vs with
 | nil =>
  intro o w xs h;refine⟨xs,h,⟨rfl,rfl,rfl,Nat.le_refl _,fun _ _ _=>rfl⟩,fun A B C hx hA hB=>?_⟩;rw[hx,List.length_eq_zero_iff.1 hB]
 | cons v vs ih =>
  intro o w xs h;have hst:=h.stored o v;obtain⟨ys,h1,h2,h3⟩:=ih (o+1) _ _ hst.1;refine⟨ys,h1,A1 hst.2 h2,fun A B C hx hA hB=>?_⟩
  match B,hB with
  | b::B,hB =>
   have:=h3 (A++[v]) B C (by rw[hx];rw[List.append_assoc,List.set_append_right _ _ (by omega),hA,Nat.sub_self];simp) (by simp;omega) (by simpa using hB);rw[this];simp
theorem Cx{cap size:Nat}{e:TypeId}(h:w.ownsRow base e size (.slice (some ⟨g,0,none⟩) n cap) n xs)(o k:Nat)(hk:o+k≤n * size):w.there g o k:=by
 intro j hj;refine⟨?_,h.frozenAt (o+j)⟩;rw[h.cellAt (o+j) (by omega),List.getElem?_eq_getElem (by have:=h.1;omega)];rfl
def LAt.row(x:LAt):MRow:=⟨x.v,9,1,x.ws.length,strs x.ws⟩
def Dr(v:Value)(ls:List LAt):List MRow:=⟨v,115,2,ls.length,ls.flatMap LAt.cells⟩::ls.map LAt.row
def A3(B:Nat)(w:World)(v:Value)(ls:List LAt):Prop:=A8 B w (Dr v ls)
theorem A3.row{ls:List LAt}(h:A3 B w v ls):w.ownsRow B 115 2 v ls.length (ls.flatMap LAt.cells):=A8.head h
theorem A3.words{ls:List LAt}(h:A3 B w v ls)(x:LAt)(hx:x∈ls):w.ownsRow B 9 1 x.v x.ws.length (strs x.ws):=h.1 x.row (List.mem_cons_of_mem _ (List.mem_map_of_mem hx))
theorem A3.lin{ls:List LAt}(h:A3 B w v ls):Ah w v ls:=⟨Bo h.row,fun x hx=>Bo (h.words x hx)⟩
theorem A3.below{ls:List LAt}(h:A3 B w v ls)(hb:Below w.heap.size w w'):A3 B w' v ls:=A8.below h hb
theorem A3.mono{ls:List LAt}(h:A3 B w v ls)(hB:B'≤B):A3 B' w v ls:=A8.mono h hB
theorem Kx{e:TypeId}{size:Nat}(h:w.ownsRow base e size v n xs)(hg:w.grownBy w' (some g))(hb:g<base):w'.ownsRow base e size v n xs:=by
 refine World.ownsRow.kept h hg ?_;cases hv:v.ownBlock with
 | none=>exact Or.inl rfl
 | some q =>
  right;have:=(h.lt q hv).1;intro e;cases e
  omega
theorem A8.other(h:A8 B w L)(hg:w.grownBy w' (some g))(hb:g<B):A8 B w' L:=⟨fun r hr=>Kx (h.1 r hr) hg hb,h.2⟩
theorem A8.setCell(h:A8 B w L)(p:Addr)(hp:p.block<B)(u:Value):A8 B (w.setCell p u) L:=⟨fun r hr=>Cl (h.1 r hr) p hp u,h.2⟩
theorem A8.setRow(h:A8 B w L)(g:Nat)(hg:g<B)(cs:Array Value):A8 B (w.setRow g cs) L:=⟨fun r hr=>Jr (h.1 r hr) g hg cs,h.2⟩
theorem Ez:(Tryz.prog.info? 115).map (fun i=>(i.zero,i.size,i.bytes))=some (some (.agg #[.string ⟨#[]⟩,.slice none 0 0]),2,40):=by kernel_rfl
theorem A3.setCell{ls:List LAt}(h:A3 B w v ls)(p:Addr)(hp:p.block<B)(u:Value):A3 B (w.setCell p u) v ls:=A8.setCell h p hp u
theorem A3.setRow{ls:List LAt}(h:A3 B w v ls)(g:Nat)(hg:g<B)(cs:Array Value):A3 B (w.setRow g cs) v ls:=A8.setRow h g hg cs
def BAt.rows(b:BAt):List MRow:=Dr b.v b.ls
def E0(v:Value)(bs:List BAt):List MRow:=⟨v,46,3,bs.length,bs.flatMap BAt.cells⟩::bs.flatMap BAt.rows
def As(B:Nat)(w:World)(v:Value)(bs:List BAt):Prop:=A8 B w (E0 v bs)
theorem As.row{bs:List BAt}(h:As B w v bs):w.ownsRow B 46 3 v bs.length (bs.flatMap BAt.cells):=A8.head h
theorem Lq(f:α→List β){L:List α}{x:α}(hx:x∈L):∃ A C,L.flatMap f=A++(f x++C):=by
 obtain⟨A,C,rfl⟩:=List.append_of_mem hx;exact⟨A.flatMap f,C.flatMap f,by simp⟩
theorem As.lines{bs:List BAt}(h:As B w v bs)(x:BAt)(hx:x∈bs):A3 B w x.v x.ls:=by
 obtain⟨A,C,e⟩:=Lq BAt.rows hx;have h1:=A8.tail h;rw[e]at h1;exact h1.right.left
theorem As.bin{bs:List BAt}(h:As B w v bs):Aw w v bs:=⟨Bo h.row,fun x hx=>(h.lines x hx).lin⟩
theorem As.below{bs:List BAt}(h:As B w v bs)(hb:Below w.heap.size w w'):As B w' v bs:=A8.below h hb
theorem As.mono{bs:List BAt}(h:As B w v bs)(hB:B'≤B):As B' w v bs:=A8.mono h hB
theorem Cn:(Tryz.prog.info? 46).map (fun i=>(i.zero,i.size,i.bytes))=some (some (.agg #[.string ⟨#[]⟩,.string ⟨#[]⟩,.slice none 0 0]),3,56):=by kernel_rfl
theorem As.setCell{bs:List BAt}(h:As B w v bs)(p:Addr)(hp:p.block<B)(u:Value):As B (w.setCell p u) v bs:=A8.setCell h p hp u
theorem As.setRow{bs:List BAt}(h:As B w v bs)(g:Nat)(hg:g<B)(cs:Array Value):As B (w.setRow g cs) v bs:=A8.setRow h g hg cs
variable {P:Program}{o:Oper}{a:Act}{K:Act → World → Prop}{Q:Exit → Act → World → Prop}{ops:Array Oper}{r r':MRow}{ls:List LAt}{bs:List BAt}
theorem I5(b off j:Nat):(⟨b,off,none⟩:Addr).add j=⟨b,off+j,none⟩:=by unfold Addr.add;split <;> simp_all
theorem Ol(base:Nat)(t ty e:TypeId)(i:TypeInfo)(size:Nat)(ht:P.underlying t=some (.slice e))(hi:P.info? e=some i)(v:Value)(n:Nat)(xs:List Value)(hown:w.ownsRow base e size v n xs)(ao:Option Addr)(c:Nat):
  (Builtin.append_ #[t,t] ty #[v,.slice ao 0 c]).run P w=.ok v w:=by
 rcases hown.2 with ⟨rfl,rfl⟩ | ⟨g,cap,cur,rfl,_,_,hnc,_⟩
 ·cases ao <;> simp[Builtin.append_,run_underlying ht,sizeOf,typeInfo,hi,Builtin.lenOf,Builtin.firstCells,loadCells,loadCellsFrom]
 ·cases ao <;> simp[Builtin.append_,run_underlying ht,sizeOf,typeInfo,hi,Builtin.lenOf,Builtin.firstCells,hnc,storeCells,loadCells,loadCellsFrom]
theorem I6(s x:Operand)(t:TypeId)
  (ho:o.op=.call { callee:=.builtin .append,args:=#[s,x],argTypes:=#[t,t] })
  (base:Nat) (e:TypeId) (i:TypeInfo) (z:Value) (size bytes:Nat) (ht:P.underlying t=some (.slice e)) (hi:P.info? e=some i) (hz:i.zero=some z)
  (hsize:i.size=size) (hby:i.bytes=bytes) (hzs:z.cells.size=size) (hsz:0<size)
  (v:Value) (n:Nat) (xs:List Value) (hs:a.eval s=v) (hown:w.ownsRow base e size v n xs)
  (u:Value) (m:Nat) (news:List Value) (hx:a.eval x=u) (hrow:An w u m size news) (h1:∀ y∈news,y.oneCell'=true)
  (h63:n+m≤maxLen) (hbytes:(n+m) * bytes≤140737488355328) (hbase:base≤w.heap.size)
  (h:∀ ao cap w',w'.ownsRow base e size (.slice ao (n+m) cap) (n+m) (xs++news)→w.grownBy w' v.ownBlock→((Value.slice ao (n+m) cap).ownBlock=v.ownBlock∨(Value.slice ao (n+m) cap).ownBlock=some w.heap.size)→K (a.put o.dst (.slice ao (n+m) cap)) w'):o.wp P a w K Q:=by
 obtain⟨hl,ao,cap,rfl,_,hc⟩:=hrow;by_cases hm:m=0
 ·subst hm;have hn0:news=[]:=by simpa using hl
  subst hn0;have hrun:=Ol (P:=P) (w:=w) base t o.type e i size ht hi v n xs hown ao cap;unfold Oper.wp execOp;simp only[ho,resolve,invoke,builtin,Sem.run_bind,Sem.run_pure,Result.andThen_ok,List.map_toArray,List.map_cons,List.map_nil,hs,hx,hrun];obtain⟨ao',cap',rfl,_⟩:=Ai hown;exact h ao' cap' w (by rw[List.append_nil];exact hown) (World.grownBy.refl _ _) (.inl rfl)
 ·rcases hc with h0 | ⟨b,off,rfl,hc⟩
  ·exact absurd h0 hm
  ·refine wp_append_lies w s x t ho base e i z size bytes ht hi hz hsize hby hzs hsz v n xs hs hown ⟨b,off,none⟩ m cap news hx hl (fun j y hj=>by rw[I5];exact hc j y hj) h1 (by omega) h63 hbytes hbase w.heap.size rfl ?_;intro g cap' w' h2 h3 h4 _;refine h _ _ w' h2 h3 ?_;rcases h4 with h4 | h4
   ·exact .inl (by rw[h4];rfl)
   ·exact .inr (by rw[h4];rfl)
theorem Be{rest:List Oper}(hgd:o.guard=none)(s x:Operand)(t:TypeId)
  (ho:o.op=.call { callee:=.builtin .append,args:=#[s,x],argTypes:=#[t,t] })
  (base:Nat) (e:TypeId) (i:TypeInfo) (z:Value) (size bytes:Nat) (ht:P.underlying t=some (.slice e)) (hi:P.info? e=some i) (hz:i.zero=some z)
  (hsize:i.size=size) (hby:i.bytes=bytes) (hzs:z.cells.size=size) (hsz:0<size)
  (v:Value) (n:Nat) (xs:List Value) (hs:a.eval s=v) (hown:w.ownsRow base e size v n xs)
  (u:Value) (m:Nat) (news:List Value) (hx:a.eval x=u) (hrow:An w u m size news) (h1:∀ y∈news,y.oneCell'=true)
  (h63:n+m≤maxLen) (hbytes:(n+m) * bytes≤140737488355328) (hbase:base≤w.heap.size)
  (h:∀ ao cap w',w'.ownsRow base e size (.slice ao (n+m) cap) (n+m) (xs++news)→w.grownBy w' v.ownBlock→((Value.slice ao (n+m) cap).ownBlock=v.ownBlock∨(Value.slice ao (n+m) cap).ownBlock=some w.heap.size)→wpList P ops Q rest (a.put o.dst (.slice ao (n+m) cap)) w'):wpList P ops Q (o::rest) a w :=
 wpList_plain hgd fun _ hK=>I6 s x t ho base e i z size bytes ht hi hz hsize hby hzs hsz v n xs hs hown u m news hx hrow h1 h63 hbytes hbase fun ao cap w' h2 h3 h4=>hK _ _ (h ao cap w' h2 h3 h4)
theorem A4{E:Prop}(hgd:o.guard=none)(s x:Operand)(t:TypeId)
  (ho:o.op=.call { callee:=.builtin .append,args:=#[s,x],argTypes:=#[t,t] })
  (base:Nat) (e:TypeId) (i:TypeInfo) (z:Value) (size bytes:Nat) (ht:P.underlying t=some (.slice e)) (hi:P.info? e=some i) (hz:i.zero=some z)
  (hsize:i.size=size) (hby:i.bytes=bytes) (hzs:z.cells.size=size) (hsz:0<size)
  (v:Value) (n:Nat) (xs:List Value) (hs:a.eval s=v) (hown:w.ownsRow base e size v n xs)
  (u:Value) (m:Nat) (news:List Value) (hx:a.eval x=u) (hrow:An w u m size news) (h1:∀ y∈news,y.oneCell'=true)
  (h63:n+m≤maxLen) (hbytes:(n+m) * bytes≤140737488355328) (hbase:base≤w.heap.size)
  (h:∀ ao cap w',w'.ownsRow base e size (.slice ao (n+m) cap) (n+m) (xs++news)→w.grownBy w' v.ownBlock→((Value.slice ao (n+m) cap).ownBlock=v.ownBlock∨(Value.slice ao (n+m) cap).ownBlock=some w.heap.size)→K (a.put o.dst (.slice ao (n+m) cap)) w') :
  if Region.wanted o (yielded ops a.tmps)=true then Oper.wp P o a w K Q else E:=by
 have hw:Region.wanted o (yielded ops a.tmps)=true:=by simp[Region.wanted,hgd]
 rw[if_pos hw];exact I6 s x t ho base e i z size bytes ht hi hz hsize hby hzs hsz v n xs hs hown u m news hx hrow h1 h63 hbytes hbase h
theorem A8.grow(h:A8 B w (r::L))(hr:r'.isAt B w')(hg:w.grownBy w' r.v.ownBlock)(hv:r'.v.ownBlock=r.v.ownBlock∨r'.v.ownBlock=some w.heap.size):A8 B w' (r'::L):=by
 have hp:=List.pairwise_cons.1 h.2;refine⟨fun s hs=>?_,List.pairwise_cons.2 ⟨fun s hs=>?_,hp.2⟩⟩
 ·rcases List.mem_cons.1 hs with rfl | h1
  ·exact hr
  ·refine World.ownsRow.kept (h.1 s (by simp[h1])) hg ?_;rcases hp.1 s h1 with h2 | h2
   ·cases hs':s.v.ownBlock with
    | none=>exact Or.inl rfl
    | some g=>right;rw[h2];simp
   ·exact Or.inr (fun e=>h2 e.symm)
 ·rcases hv with hv | hv
  ·rw[hv];exact hp.1 s hs
  ·rw[hv];refine .inr fun e=>?_
   have:=(h.lt (List.mem_cons_of_mem _ hs) e.symm).2;omega
theorem Wr(ws:List (List UInt8)):∀ u∈strs ws,u.oneCell'=true:=by
 intro u hu;simp only[strs,List.mem_map]at hu;obtain⟨x,_,rfl⟩:=hu;rfl
theorem Fr(h:∀ x∈ls,∃ a n c,x.v=.slice a n c):∀ u∈ls.flatMap LAt.cells,u.oneCell'=true:=by
 intro u hu;obtain⟨x,hx,hu⟩:=List.mem_flatMap.1 hu;obtain⟨a,n,c,e⟩:=h x hx;simp only[LAt.cells,List.mem_cons,List.not_mem_nil,or_false]at hu;rcases hu with rfl | rfl
 ·rfl
 ·rw[e];rfl
theorem Fs(h:∀ x∈bs,∃ a n c,x.v=.slice a n c):∀ u∈bs.flatMap BAt.cells,u.oneCell'=true:=by
 intro u hu;obtain⟨x,hx,hu⟩:=List.mem_flatMap.1 hu;obtain⟨a,n,c,e⟩:=h x hx;simp only[BAt.cells,List.mem_cons,List.not_mem_nil,or_false]at hu;rcases hu with rfl | rfl | rfl
 ·rfl
 ·rfl
 ·rw[e];rfl
variable {q:Nat}
def Cr(q:Nat)(v:Value)(n:Nat):Prop:=n=0∨∀ b off m c,v=.slice (some ⟨b,off,none⟩) m c→b≠q
theorem An.far{size:Nat}(h:An w v n size xs)(hf:Cr q v n)(hg:w.grownBy w' (some q)):An w' v n size xs:=by
 obtain⟨hl,ao,cap,hv,hk,hc⟩:=h;refine⟨hl,ao,cap,hv,hk,?_⟩;rcases hc with h0 | ⟨b,off,ha,hc⟩
 ·exact .inl h0
 ·rcases hf with h0 | hf
  ·exact .inl h0
  ·have hb:=hf b off n cap (by rw[hv,ha]);exact .inr ⟨b,off,ha,fun j u hj=>(hg.cell_far ⟨b,off+j,none⟩ (World.block_lt_of_cell? w _ (hc j u hj)) (by intro e;cases e;exact hb rfl)).trans (hc j u hj)⟩
theorem Cr.of_own{e:TypeId}{size:Nat}(h:w.ownsRow base e size v n xs)(hq:v.ownBlock≠some q):Cr q v n:=by
 rcases h.2 with ⟨rfl,h0⟩ | ⟨g,cap,cur,rfl,_⟩
 ·exact .inl h0
 ·refine .inr fun b off m c e=>?_
  cases e
  exact fun e=>hq (by rw[← e];rfl)
theorem Cr.of_lt{size:Nat}(h:An w v n size xs)(hs:0<size)(hq:w.heap.size≤q):Cr q v n:=by
 obtain⟨hl,ao,cap,rfl,hk,hc⟩:=h;rcases hc with h0 | ⟨b,off,rfl,hc⟩
 ·exact .inl h0
 ·by_cases h0:n=0
  ·exact .inl h0
  ·refine .inr fun b' off' m c e=>?_
   cases e
   have hp:0<xs.length:=by rw[hl];exact Nat.mul_pos (by omega) hs
   have:b<w.heap.size:=World.block_lt_of_cell? w _ (hc 0 xs[0] (List.getElem?_eq_getElem hp));omega
def Aj(q:Nat)(v:Value)(ls:List LAt):Prop:=Cr q v ls.length∧∀ y∈ls,Cr q y.v y.ws.length
theorem Ah.far(h:Ah w v ls)(hf:Aj q v ls)(hg:w.grownBy w' (some q)):Ah w' v ls:=⟨h.1.far hf.1 hg,fun x hx=>(h.2 x hx).far (hf.2 x hx) hg⟩
theorem Cr.above{e:TypeId}{size:Nat}(h:w.ownsRow B e size v n xs)(hq:q<B):Cr q v n:=Cr.of_own h (fun e=>by have:=(h.lt q e).1;omega)
variable {rest:List MRow}{D T:List BAt}{ls':List LAt}
theorem A8.midTurn{A C:List MRow}(h:A8 B w (A++r::C))(hv:r'.v=r.v)(hr:r'.isAt B w')(hg:w.grownBy w' r.v.ownBlock):A8 B w' (A++r'::C) :=
 (A8.turn (h.perm List.perm_middle) hv hr hg).perm List.perm_middle.symm
theorem Ad0(f:α→List Value)(k:Nat)(hf:∀ x,(f x).length=k)(D T:List α)(r r':α)(c:Nat)(u:Value)(hc:c<k)(hr:f r'=(f r).set c u):((D++r::T).flatMap f).set (D.length * k+c) u=(D++r'::T).flatMap f:=by
 rw[List.flatMap_append,List.flatMap_cons,List.set_append_right _ _ (by rw[By f k hf];omega),By f k hf,Nat.add_sub_cancel_left,List.set_append_left _ _ (by rw[hf];omega),← hr,List.flatMap_append,List.flatMap_cons]
def LM(B:Nat)(w:World)(v:Value)(C:List LAt)(rest:List MRow):Prop:=A8 B w (Dr v C++rest)
theorem LM.own{C:List LAt}(h:LM B w v C rest):A3 B w v C:=A8.left h
theorem LM.size{cap:Nat}{C:List LAt}(h:LM B w (.slice (some ⟨g,0,none⟩) n cap) C rest)(hn:C.length=n):w.ownsRow B 115 2 (.slice (some ⟨g,0,none⟩) n cap) n (C.flatMap LAt.cells):=by
 subst hn;exact A8.head h
theorem LM.cell{cap:Nat}{D T:List LAt}{r:LAt}(h:LM B w (.slice (some ⟨g,0,none⟩) n cap) (D++r::T) rest)(c:Nat)(hc:c<2):w.cell? ⟨g,D.length * 2+c,none⟩=r.cells[c]?:=by
 have h1:=(A8.head h).cells rfl (D.length * 2+c);obtain⟨u,hu⟩:∃ u,r.cells[c]?=some u:=⟨_,List.getElem?_eq_getElem (by simp[LAt.cells];omega)⟩;rw[hu];rw[← Oq];exact h1 u (by rw[D4 _ 2 LAt.len D T r c hc,hu])
theorem LM.words{D T:List LAt}{r:LAt}(h:LM B w v (D++r::T) rest):w.ownsRow B 9 1 r.v r.ws.length (strs r.ws):=h.own.words r (by simp)
theorem LM.set{cap:Nat}{D T:List LAt}{r:LAt}(h:LM B w (.slice (some ⟨g,0,none⟩) n cap) (D++r::T) rest)(hn:(D++r::T).length=n)(c:Nat)(u:Value)(r':LAt)(hc:c<2)(hr:r'.cells=r.cells.set c u)(hrr:r'.row=r.row):
  LM B (w.setCell ⟨g,D.length * 2+c,none⟩ u) (.slice (some ⟨g,0,none⟩) n cap) (D++r'::T) rest:=by
 have hst:=(h.size hn).stored (D.length * 2+c) u;rw[Ad0 _ 2 LAt.len D T r r' c u hc hr]at hst;unfold LM Dr at h ⊢;have e:(D++r'::T).map LAt.row=(D++r::T).map LAt.row:=by rw[List.map_append,List.map_append,List.map_cons,List.map_cons,hrr]
 have e2:(D++r'::T).length=(D++r::T).length:=by simp
 rw[e,e2];subst hn;exact A8.turn h rfl hst.1 hst.2
theorem LM.turn{D T:List LAt}{r:LAt}(h:LM B w v (D++r::T) rest)(ws':List (List UInt8))(hl:ws'.length=r.ws.length)(ho:w'.ownsRow B 9 1 r.v r.ws.length (strs ws'))(hg:w.grownBy w' r.v.ownBlock):LM B w' v (D++{ r with ws:=ws' }::T) rest:=by
 have e:∀ x:LAt,((D++x::T).map LAt.row++rest)=D.map LAt.row++(x.row::(T.map LAt.row++rest)):=fun x=>by simp
 unfold LM Dr at h ⊢;have ec:(D++{ r with ws:=ws' }::T).flatMap LAt.cells=(D++r::T).flatMap LAt.cells:=by rw[List.flatMap_append,List.flatMap_append,List.flatMap_cons,List.flatMap_cons];rfl
 have e2:(D++{ r with ws:=ws' }::T).length=(D++r::T).length:=by simp
 rw[List.cons_append,e]at h;rw[List.cons_append,e,ec,e2];exact A8.midTurn (A:=_::D.map LAt.row) (r:=r.row) (r':=LAt.row { r with ws:=ws' }) h rfl (by show w'.ownsRow B 9 1 r.v ws'.length (strs ws');rw[hl];exact ho) hg
def BM(B:Nat)(w:World)(v:Value)(C:List BAt)(rest:List MRow):Prop:=A8 B w (E0 v C++rest)
theorem BM.own{C:List BAt}(h:BM B w v C rest):As B w v C:=A8.left h
theorem As.bm{C:List BAt}(h:As B w v C):BM B w v C []:=by unfold BM;rw[List.append_nil];exact h
def Hn(v:Value)(D:List BAt)(r:BAt)(T:List BAt)(rest:List MRow):List MRow:=(⟨v,46,3,(D++r::T).length,(D++r::T).flatMap BAt.cells⟩::D.flatMap BAt.rows)++(T.flatMap BAt.rows++rest)
theorem N8(v:Value)(D:List BAt)(r:BAt)(T:List BAt)(rest:List MRow):(E0 v (D++r::T)++rest).Perm (Dr r.v r.ls++Hn v D r T rest):=by
 have e:E0 v (D++r::T)++rest=(⟨v,46,3,(D++r::T).length,(D++r::T).flatMap BAt.cells⟩::D.flatMap BAt.rows)++(Dr r.v r.ls++(T.flatMap BAt.rows++rest)):=by
  unfold E0;rw[List.flatMap_append,List.flatMap_cons];simp[BAt.rows]
 rw[e];exact List.perm_append_comm_assoc _ _ _
theorem BM.lines{r:BAt}(h:BM B w v (D++r::T) rest):LM B w r.v r.ls (Hn v D r T rest):=A8.perm h (N8 v D r T rest)
theorem BM.back{r:BAt}(h:LM B w r.v ls' (Hn v D r T rest)):BM B w v (D++{ r with ls:=ls' }::T) rest:=by
 refine A8.perm h (List.Perm.symm ?_);have e:Hn v D r T rest=Hn v D { r with ls:=ls' } T rest:=by
  unfold Hn;rw[show (D++{ r with ls:=ls' }::T).flatMap BAt.cells=(D++r::T).flatMap BAt.cells by rw[List.flatMap_append,List.flatMap_append,List.flatMap_cons,List.flatMap_cons];rfl,show (D++{ r with ls:=ls' }::T).length=(D++r::T).length by simp]
 rw[e];exact N8 v D { r with ls:=ls' } T rest
def Du(B:Nat)(w:World)(v:Value)(bs:List BAt):Prop:=w.ownsRow B 46 3 v bs.length (bs.flatMap BAt.cells)∧∀ x∈bs,Ah w x.v x.ls∧∀ q,v.ownBlock=some q→Aj q x.v x.ls
theorem Du.row(h:Du B w v bs):w.ownsRow B 46 3 v bs.length (bs.flatMap BAt.cells):=h.1
theorem Du.bin(h:Du B w v bs):Aw w v bs:=⟨Bo h.1,fun x hx=>(h.2 x hx).1⟩
theorem Du.below(h:Du B w v bs)(hb:Below w.heap.size w w'):Du B w' v bs:=⟨Cd h.1 hb,fun x hx=>⟨(h.2 x hx).1.below hb,(h.2 x hx).2⟩⟩
theorem Du.mono(h:Du B w v bs)(hB:B'≤B):Du B' w v bs:=⟨Ec h.1 hB,h.2⟩
theorem Qg{s:MRow}(h:A8 B w (r::L))(hs:s∈L)(hq:r.v.ownBlock=some q):Cr q s.v s.n:=by
 have hp:=(List.pairwise_cons.1 h.2).1 s hs;refine Cr.of_own (h.1 s (List.mem_cons_of_mem _ hs)) (fun e=>?_);rcases hp with hp | hp
 ·rw[hp]at hq;cases hq
 ·exact hp (hq.trans e.symm)
theorem As.brow(h:As B w v bs):Du B w v bs:=by
 refine⟨h.row,fun x hx=>⟨(h.lines x hx).lin,fun q hq=>?_⟩⟩;have hm:∀ s∈BAt.rows x,s∈bs.flatMap BAt.rows:=fun s hs=>List.mem_flatMap.2 ⟨x,hx,hs⟩
 refine⟨?_,fun y hy=>?_⟩
 ·exact Qg (s:=⟨x.v,115,2,x.ls.length,x.ls.flatMap LAt.cells⟩) h (hm _ (by unfold BAt.rows Dr;simp)) hq
 ·exact Qg (s:=LAt.row y) h (hm _ (by unfold BAt.rows Dr;simp;exact .inr ⟨y,hy,rfl⟩)) hq
theorem Du.set{cap:Nat}{x b:BAt}(h:Du B w (.slice (some ⟨g,0,none⟩) n cap) (D++x::T))(hn:(D++x::T).length=n)(hin:Ah w b.v b.ls)(hf:Aj g b.v b.ls):
  Du B (w.setCells g (D.length * 3) b.cells) (.slice (some ⟨g,0,none⟩) n cap) (D++b::T)∧w.grownBy (w.setCells g (D.length * 3) b.cells) (some g):=by
 have h1:=h.1;rw[hn]at h1;obtain⟨ys,y1,y2,y3⟩:=Ci b.cells (D.length * 3) w _ h1;have hy:=y3 (D.flatMap BAt.cells) x.cells (T.flatMap BAt.cells) (by simp) (By _ 3 BAt.len D) (by rw[BAt.len,BAt.len]);have e2:(D++b::T).length=n:=by rw[← hn];simp
 refine⟨⟨?_,fun z hz=>?_⟩,y2⟩
 ·rw[e2];rw[hy]at y1;simpa using y1
 ·rcases List.mem_append.1 hz with hz | hz
  ·have:=h.2 z (by simp[hz]);exact⟨this.1.far (this.2 g rfl) y2,this.2⟩
  ·rcases List.mem_cons.1 hz with rfl | hz
   ·exact⟨hin.far hf y2,fun q hq=>by cases hq;exact hf⟩
   ·have:=h.2 z (by simp[hz]);exact⟨this.1.far (this.2 g rfl) y2,this.2⟩
theorem Du.cell{cap:Nat}{x:BAt}(h:Du B w (.slice (some ⟨g,0,none⟩) n cap) (D++x::T))(c:Nat)(hc:c<3):w.cell? ⟨g,D.length * 3+c,none⟩=x.cells[c]?:=by
 have h1:=h.1.cells rfl (D.length * 3+c);obtain⟨u,hu⟩:∃ u,x.cells[c]?=some u:=⟨_,List.getElem?_eq_getElem (by simp[BAt.cells];omega)⟩;rw[hu];rw[← Oq];exact h1 u (by rw[D4 _ 3 BAt.len D T x c hc,hu])
theorem Du.there{cap:Nat}{x:BAt}(h:Du B w (.slice (some ⟨g,0,none⟩) n cap) (D++x::T))(hn:(D++x::T).length=n):w.there g (D.length * 3) 3:=by
 have h1:=h.1;rw[hn]at h1;refine Cx h1 _ _ ?_;have:D.length+1≤n:=by rw[← hn];simp
 omega
def Two(g1 g2:Nat)(v1 v2:Value)(W:World):Prop:=W.cell? ⟨g1,0,none⟩=some v1∧W.cell? ⟨g2,0,none⟩=some v2
end Go.Proofs.YtpdahhnjhggocaaGreatDoor
