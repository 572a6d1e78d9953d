import Derived.Test.YtpdahhnjhggocaaGreatDoorMz18
import Derived.Test.YtpdahhnjhggocaaGreatDoorMz30
namespace Go.Proofs.YtpdahhnjhggocaaGreatDoor
open Go.RowKit
set_option maxHeartbeats 16000000
set_option maxRecDepth 100000
variable {p t B kk kk' k:Nat}{W W' w1 w:World}{v':Value}{ls':List LAt}
structure Aje(B p:Nat)(w:World)(n:Nat)(T:List (Nat × List ByteArray))(W:World):Prop where
 rd:Rd B W p n
 gr:w.grownBy W (some p)
 plt:p<w.heap.size
 tabs:∀ x∈T,W.heap[x.1]?=some (.cells (x.2.map Value.string).toArray 9 (0,0))∧p<x.1
def Il(b:BAt):Prop:=b.kind.size≤20∧∀ x∈b.ls,x.key.size≤20
theorem Zv{k:ByteArray}(h:1≤(rulesOf k).length):k.size≤20:=by
 have e:k.size=k.toList.length:=by rw[ByteArray.toList_eq];simp
 rw[e];unfold rulesOf at h;split at h
 ·rename_i h1;rw[h1];decide
 ·split at h
  ·rename_i h1;rw[h1];decide
  ·split at h
   ·rename_i h1;rw[h1];decide
   ·simp at h
theorem Acg{k:ByteArray}{z:Plain}(h:z∈rulesOf k):z.1.size≤20:=by
 unfold rulesOf at h;split at h
 ·exact(show ∀ z∈Gm,z.1.size≤20 by decide) z h
 ·split at h
  ·exact(show ∀ z∈Fo,z.1.size≤20 by decide) z h
  ·split at h
   ·exact(show ∀ z∈Eh,z.1.size≤20 by decide) z h
   ·cases h
def Aen(B p k:Nat)(w:World)(e:Ending)(w':World):Prop:=∃(b:BAt) (k':Nat),e=.returned (.agg #[.string b.kind,.string b.name,b.v])∧k'≤k+100∧Rd B w' p k'∧w.grownBy w' (some p)∧(Ah w' b.v b.ls∧∀ q,q<w.heap.size→Aj q b.v b.ls)∧b.name.size≤4∧b.ls.length≤7∧(∀ x∈b.ls,x.ws.length≤3∧∀ y∈x.ws,y.length≤200)∧Il b
def Ai4(B p k:Nat)(w1:World)(q:Value)(wx:World):Prop:=∃(R:Nat) (kind name:ByteArray),q=.pointer (some ⟨R,0,none⟩)∧wx.heap[R]?=some (.cells #[.string kind,.string name,.slice none 0 0] 46 (0,0))∧(1≤(rulesOf kind).length∧name.size≤4∧w1.heap.size≤R)∧Rd B wx p (k+2)∧w1.grownBy wx (some p)
def Lx:List ByteArray:=[⟨#[116,101,97,109]⟩,⟨#[98,101,114,116,104]⟩,⟨#[115,101,114,118,105,99,101]⟩,⟨#[115,101,114,118,105,99,101]⟩]
def Ly:List ByteArray:=[⟨#[97]⟩,⟨#[98]⟩,⟨#[119,101,98]⟩,⟨#[100,98,45,49]⟩]
theorem Aih(u:ByteArray)(h:u∈Lx):1≤(rulesOf u).length:=by
 unfold Lx at h;simp only[List.mem_cons,List.not_mem_nil,or_false]at h;rcases h with rfl | rfl | rfl | rfl <;> simp[rulesOf,ByteArray.toList_eq,Gm,Fo,Eh]
theorem Aii(u:ByteArray)(h:u∈Ly):u.size≤4:=by
 unfold Ly at h;simp only[List.mem_cons,List.not_mem_nil,or_false]at h;rcases h with rfl | rfl | rfl | rfl <;> decide
def Kr(p:Nat)(W:World)(t:Nat)(l:List ByteArray):Prop:=W.heap[t]?=some (.cells (l.map Value.string).toArray 9 (0,0))∧p<t
def Cv(p:Nat)(W W':World):Prop:=∀ t o,p<t→W.heap[t]?=some o→W'.heap[t]?=some o
theorem Cv.grown(h:W.grownBy W' (some p)):Cv p W W':=fun t o ht ho=>by
 rw[h.block t (Array.getElem?_eq_some_iff.1 ho).1 (by intro e;cases e;omega)];exact ho
theorem Cv.alloc(p:Nat)(W:World)(o:Obj):Cv p W (W.alloc o):=fun t o' _ ho=>by rw[Cy _ _ _ (Array.getElem?_eq_some_iff.1 ho).1];exact ho
theorem Cv.refl(p:Nat)(W:World):Cv p W W:=fun _ _ _ h=>h
theorem Kr.keep{l:List ByteArray}(h:Kr p W t l)(k:Cv p W W'):Kr p W' t l:=⟨k t _ h.2 h.1,h.2⟩
theorem Kr.cell{l:List ByteArray}(h:Kr p W t l){y:Nat}(hy:y<l.length):∃ u∈l,W.cell? ⟨t,y,none⟩=some (.string u):=by
 refine⟨l[y],List.getElem_mem _,?_⟩;rw[Ab h.1 y];simp[hy]
def Aij:Obj:=.cells #[.string ⟨#[]⟩,.string ⟨#[]⟩,.slice none 0 0] 46 (0,0)
def V5(p:Nat)(w1:World)(i:Nat)(x:Value)(W:World):Prop:=match i with
 | 0=>∃ t,x=.slice (some ⟨t,0,none⟩) 4 4∧Kr p W t Lx
 | 1=>x=.pointer (some ⟨p,0,none⟩)
 | 2=>∃ y:Nat,y<4∧x=.int .i64 (y:Int)
 | 3=>∃ t y:Nat,y<4∧x=.pointer (some ⟨t,y,none⟩)∧Kr p W t Lx
 | 4=>∃ u∈Lx,x=.string u
 | 5=>∃ t,x=.slice (some ⟨t,0,none⟩) 4 4∧Kr p W t Ly
 | 6=>x=.pointer (some ⟨p,0,none⟩)
 | 7=>∃ y:Nat,y<4∧x=.int .i64 (y:Int)
 | 8=>∃ t y:Nat,y<4∧x=.pointer (some ⟨t,y,none⟩)∧Kr p W t Ly
 | 9=>∃ u∈Ly,x=.string u
 | 10=>∃ u∈Lx,∃ v∈Ly,x=.agg #[.string u,.string v,.slice none 0 0]
 | 11=>∃ R,x=.pointer (some ⟨R,0,none⟩)∧W.heap[R]?=some Aij∧w1.heap.size≤R∧p<R
 | _=>True
theorem V5.keep(k:Cv p W W'):∀(i:Nat) (x:Value),V5 p w1 i x W→V5 p w1 i x W':=by
 intro i x h;unfold V5 at *;split <;> simp only at h
 ·obtain⟨t,e,ht⟩:=h;exact⟨t,e,ht.keep k⟩
 ·exact h
 ·exact h
 ·obtain⟨t,y,hy,e,ht⟩:=h;exact⟨t,y,hy,e,ht.keep k⟩
 ·exact h
 ·obtain⟨t,e,ht⟩:=h;exact⟨t,e,ht.keep k⟩
 ·exact h
 ·exact h
 ·obtain⟨t,y,hy,e,ht⟩:=h;exact⟨t,y,hy,e,ht.keep k⟩
 ·exact h
 ·exact h
 ·obtain⟨R,e,h1,h2,h3⟩:=h;exact⟨R,e,k R _ h3 h1,h2,h3⟩
 ·trivial
def DbG(B p k:Nat)(w1:World)(L:Nat→Bool)(W:World):Prop:=Rd B W p (k+(if L 2=true then 1 else 0)+(if L 7=true then 1 else 0))∧(L 7=true→L 2=true)∧w1.grownBy W (some p)
structure Zw(B p:Nat)(w1:World)(R:Nat)(kk:Nat)(b:BAt)(W:World):Prop where
 rd:Rd B W p kk
 gr:w1.grownBy W (some p)
 box:W.heap[R]?=some (.cells #[.string b.kind,.string b.name,b.v] 46 (0,0))
 Rge:w1.heap.size≤R
 plt:p<w1.heap.size
 lin:Ah W b.v b.ls
 abv:∀ q,q<w1.heap.size→Aj q b.v b.ls
 farR:Aj R b.v b.ls
 small:∀ x∈b.ls,(∃ z∈rulesOf b.kind,z.1=x.key)∧x.ws.length≤3∧∀ y∈x.ws,y.length≤200
theorem Zw.Rlt{R:Nat}{b:BAt}(h:Zw B p w1 R kk b W):R<W.heap.size:=(Array.getElem?_eq_some_iff.1 h.box).1
theorem Zw.grown{R:Nat}{b:BAt}(h:Zw B p w1 R kk b W)(g:W.grownBy W' (some p))(r:Rd B W' p kk'):Zw B p w1 R kk' b W' :=
 ⟨r,A1 h.gr g,Cv.grown g R _ (Nat.lt_of_lt_of_le h.plt h.Rge) h.box,h.Rge,h.plt,h.lin.far (h.abv p h.plt) g,h.abv,h.farR,h.small⟩
theorem Zw.below{R:Nat}{b:BAt}(h:Zw B p w1 R kk b W)(hb:Below W.heap.size W W'):Zw B p w1 R kk b W' :=
 ⟨h.rd.below hb,A1 h.gr (Bs hb _),by rw[hb.block R h.Rlt];exact h.box,h.Rge,h.plt,h.lin.below hb,h.abv,h.farR,h.small⟩
theorem Zw.put{R:Nat}{b:BAt}(h:Zw B p w1 R kk b W)(hl:Ah W v' ls')(fp:∀ q,q<w1.heap.size→Aj q v' ls')(fR:Aj R v' ls')(hs:∀ x∈ls',(∃ z∈rulesOf b.kind,z.1=x.key)∧x.ws.length≤3∧∀ y∈x.ws,y.length≤200):Zw B p w1 R kk ⟨b.kind,b.name,v',ls'⟩ (W.setRow R #[.string b.kind,.string b.name,v']):=by
 have gs:=Bx W R #[.string b.kind,.string b.name,v'];have hpR:=Nat.lt_of_lt_of_le h.plt h.Rge;refine⟨Bl.rd h.rd (Bl.of_grown (S:=[R]) gs (fun g hg=>by cases hg;simp)) (fun i hi=>by rw[List.mem_singleton.1 hi];exact hpR),⟨h.gr.os,h.gr.tape,h.gr.output,by rw[setRow_size];exact h.gr.size,fun i hi hne=>?_⟩,setRow_heap _ _ _ _ _ _ h.box,h.Rge,h.plt,hl.far fR gs,fp,fR,hs⟩;have:=h.Rge;rw[setRow_other _ _ _ _ (by omega)];exact h.gr.block i hi hne
theorem Zw.out{R s:Nat}{b:BAt}(h:Zw B p w1 R kk b W)(hs:s=w.heap.size)(hs1:w1.heap.size=w.heap.size+1)(hw:w.grownBy w1 (some p))(hp:p<w.heap.size)(hk:kk≤k+100)(hl:b.ls.length≤7)(hn:b.name.size≤4)(hkd:1≤(rulesOf b.kind).length)(cs:Array Value):Aen B p k w (.returned (.agg #[.string b.kind,.string b.name,b.v])) (W.setRow s cs):=by
 subst hs;have gs:=Bx W w.heap.size cs;refine⟨b,kk,rfl,hk,Bl.rd h.rd (Bl.of_grown (S:=[w.heap.size]) gs (fun g hg=>by cases hg;simp)) (fun i hi=>by rw[List.mem_singleton.1 hi];exact hp),⟨h.gr.os.trans hw.os,h.gr.tape.trans hw.tape,h.gr.output.trans hw.output,?_,fun i hi hne=>?_⟩,⟨h.lin.far (h.abv _ (by omega)) gs,fun q hq=>h.abv q (by omega)⟩,hn,hl,fun x hx=>(h.small x hx).2,Zv hkd,fun x hx=>by obtain⟨⟨z,hz,e⟩,_⟩:=h.small x hx;rw[← e];exact Acg hz⟩
 ·rw[setRow_size];have:=h.gr.size;omega
 ·rw[setRow_other _ _ _ _ (by omega),h.gr.block i (by omega) hne];exact hw.block i hi hne
def Aik(B p k:Nat)(w1:World)(R:Nat)(kind name:ByteArray)(i:Value)(W:World):Prop:=∃(m kk:Nat) (b:BAt),i=.int .i64 (m:Int)∧m≤7∧b.ls.length+m≤7∧kk+10 * m≤k+73∧b.kind=kind∧b.name=name∧Zw B p w1 R kk b W
theorem Ho(B p k:Nat)(w:World)(h:Rd B w p k)(hk:k≤700000):Calls Tryz.prog 106 #[.pointer (some ⟨p,0,none⟩)] w fun e w'=>Aen B p k w e w':=by
 have hp:=h.lt;have hr1:Rd B (w.alloc (.cells #[.string ⟨#[]⟩,.string ⟨#[]⟩,.slice none 0 0] 46)) p k:=h.below ((Below.refl _ _).alloc (Nat.le_refl _) _);have G1:w.grownBy (w.alloc (.cells #[.string ⟨#[]⟩,.string ⟨#[]⟩,.slice none 0 0] 46)) (some p):=Dk (World.grownBy_alloc _ _ _) _;have z1:=Al w (.cells #[.string ⟨#[]⟩,.string ⟨#[]⟩,.slice none 0 0] 46);have s1:(w.alloc (.cells #[.string ⟨#[]⟩,.string ⟨#[]⟩,.slice none 0 0] 46)).heap.size=w.heap.size+1:=by simp
 generalize hw1:w.alloc (.cells #[.string ⟨#[]⟩,.string ⟨#[]⟩,.slice none 0 0] 46)=w1 at *;have ew1:=Aa hw1;clear hw1;go_enter Tryz.func106,Tryz.ntmps106;go_upto_region 1 with fail
 rw[ew1.out];go_cut [3] from 8 to 18 (fun q wx=>Ai4 B p k w1 q wx)
 case first =>
  have HPK:=fun n (hn:n≤k+1) W (hW:Rd B W p n)=>Bn B p n 4 W hW (by omega) (by omega) (by omega)
  have hp1:p<w1.heap.size:=by omega
  refine Lh (Bm (fun v=>⟨#[.pointer (some ⟨p,0,none⟩),undef,.pointer (some ⟨w.heap.size,0,none⟩),v 11,undef,undef,undef,undef,v 0,v 1,v 2,v 3,v 4,v 5,v 6,v 7,v 8,v 9,v 10,undef,undef,undef,undef,undef,undef,undef,undef,undef,undef,undef,undef,undef,undef,undef,undef,undef,undef,undef,undef,undef,undef,undef,undef,undef,undef,undef,undef,undef,undef,undef,undef,undef,undef,undef,undef,undef,undef,undef],[]⟩) (V5 p w1) (DbG B p k w1)) 12 13 [0,1,2,3,4,5,6,7,8,9,10,11,12] (by kernel_rfl) rfl (by decide) (by kernel_rfl) ?_ ?_
  ·exact⟨fun _=>undef,rfl,fun i hi=>by
    have:13≤i:=by simpa using hi
    unfold V5;split <;> first | omega | trivial,⟨hr1,fun h=>h,⟨rfl,rfl,rfl,Nat.le_refl _,fun _ _ _=>rfl⟩⟩⟩
  ·refine Am.cons [] rfl (by decide) (by kernel_rfl) ?o0 (Am.cons [] rfl (by decide) (by kernel_rfl) ?o1 (Am.cons [1] rfl (by decide) (by kernel_rfl) ?o2 (Am.cons [0,2] rfl (by decide) (by kernel_rfl) ?o3 (Am.cons [3] rfl (by decide) (by kernel_rfl) ?o4 (Am.cons [] rfl (by decide) (by kernel_rfl) ?o5 (Am.cons [] rfl (by decide) (by kernel_rfl) ?o6 (Am.cons [6,2] rfl (by decide) (by kernel_rfl) ?o7 (Am.cons [5,7] rfl (by decide) (by kernel_rfl) ?o8 (Am.cons [8] rfl (by decide) (by kernel_rfl) ?o9 (Am.cons [4,9] rfl (by decide) (by kernel_rfl) ?o10 (Am.cons [] rfl (by decide) (by kernel_rfl) ?o11 (Am.last [11,10,7,0,1,2,3,4,5,6,7,8,9,10,11] rfl (by kernel_rfl) ?o12))))))))))));case o0 =>
    rintro L _ W h0 hpre ⟨v,rfl,hv,hr,hc,hg⟩ K hK;go_simp;refine hK.out _ _ (Bm.next hv 0 _ rfl (V5.keep (Cv.alloc _ _ _)) ⟨_,rfl,Al _ _,Nat.lt_of_lt_of_le hp1 hg.size⟩ ⟨?_,by simpa [Ef] using hc,A1 hg (Dk (World.grownBy_alloc _ _ _) _)⟩);simpa [Ef] using hr.below ((Below.refl _ _).alloc (Nat.le_refl _) _)
   case o1 =>
    rintro L _ W h0 hpre ⟨v,rfl,hv,hr,hc,hg⟩ K hK;go_simp;exact hK.out _ _ (Bm.next hv 1 _ rfl (V5.keep (Cv.refl _ _)) rfl ⟨by simpa [Ef] using hr,by simpa [Ef] using hc,hg⟩)
   case o2 =>
    rintro L _ W h0 hpre ⟨v,rfl,hv,hr,hc,hg⟩ K hK;have e1:v 1=.pointer (some ⟨p,0,none⟩):=hv 1 (hpre 1 (by simp));have h7:L 7=false:=by
     cases h7:L 7
     ·rfl
     ·have:=hc h7;rw[h0]at this;cases this
    simp only[h0,h7,Bool.false_eq_true,if_false,Nat.add_zero]at hr;go_simp;go_wp2_with (go_at_call 44;refine(HPK _ (by omega) _ hr).mono ?_;rintro e W' ⟨y,hy,rfl,hr',hg'⟩)
    exact hK.out _ _ (Bm.next hv 2 _ (by simp[e1]) (V5.keep (Cv.grown hg')) ⟨y,hy,rfl⟩ ⟨by simpa [Ef,h7] using hr',by simp[Ef,h7],A1 hg hg'⟩)
   case o3 =>
    rintro L _ W h0 hpre ⟨v,rfl,hv,hr,hc,hg⟩ K hK;obtain⟨t,e0,ht⟩:=hv 0 (hpre 0 (by simp));obtain⟨y,hy,e2⟩:=hv 2 (hpre 2 (by simp));have y0:(0:Int)≤(y:Int):=by omega
    have y4:(y:Int)<4:=by omega
    go_simp;exact hK.out _ _ (Bm.next hv 3 _ (by simp[e0,e2]) (V5.keep (Cv.refl _ _)) ⟨t,y,hy,rfl,ht⟩ ⟨by simpa [Ef] using hr,by simpa [Ef] using hc,hg⟩)
   case o4 =>
    rintro L _ W h0 hpre ⟨v,rfl,hv,hr,hc,hg⟩ K hK;obtain⟨t,y,hy,e3,ht⟩:=hv 3 (hpre 3 (by simp));obtain⟨u,hu,hcell⟩:=ht.cell (show y<Lx.length from hy);go_simp;exact hK.out _ _ (Bm.next hv 4 _ (by simp[e3]) (V5.keep (Cv.refl _ _)) ⟨u,hu,rfl⟩ ⟨by simpa [Ef] using hr,by simpa [Ef] using hc,hg⟩)
   case o5 =>
    rintro L _ W h0 hpre ⟨v,rfl,hv,hr,hc,hg⟩ K hK;go_simp;refine hK.out _ _ (Bm.next hv 5 _ rfl (V5.keep (Cv.alloc _ _ _)) ⟨_,rfl,Al _ _,Nat.lt_of_lt_of_le hp1 hg.size⟩ ⟨?_,by simpa [Ef] using hc,A1 hg (Dk (World.grownBy_alloc _ _ _) _)⟩);simpa [Ef] using hr.below ((Below.refl _ _).alloc (Nat.le_refl _) _)
   case o6 =>
    rintro L _ W h0 hpre ⟨v,rfl,hv,hr,hc,hg⟩ K hK;go_simp;exact hK.out _ _ (Bm.next hv 6 _ rfl (V5.keep (Cv.refl _ _)) rfl ⟨by simpa [Ef] using hr,by simpa [Ef] using hc,hg⟩)
   case o7 =>
    rintro L _ W h0 hpre ⟨v,rfl,hv,hr,hc,hg⟩ K hK;have e1:v 6=.pointer (some ⟨p,0,none⟩):=hv 6 (hpre 6 (by simp));have h2:L 2=true:=hpre 2 (by simp);simp only[h0,h2,Bool.false_eq_true,if_false,if_true,Nat.add_zero]at hr;go_simp;go_wp2_with (go_at_call 44;refine(HPK _ (by omega) _ hr).mono ?_;rintro e W' ⟨y,hy,rfl,hr',hg'⟩)
    exact hK.out _ _ (Bm.next hv 7 _ (by simp[e1]) (V5.keep (Cv.grown hg')) ⟨y,hy,rfl⟩ ⟨by simpa [Ef,h2] using hr',by simp[Ef,h2],A1 hg hg'⟩)
   case o8 =>
    rintro L _ W h0 hpre ⟨v,rfl,hv,hr,hc,hg⟩ K hK;obtain⟨t,e0,ht⟩:=hv 5 (hpre 5 (by simp));obtain⟨y,hy,e2⟩:=hv 7 (hpre 7 (by simp));have y0:(0:Int)≤(y:Int):=by omega
    have y4:(y:Int)<4:=by omega
    go_simp;exact hK.out _ _ (Bm.next hv 8 _ (by simp[e0,e2]) (V5.keep (Cv.refl _ _)) ⟨t,y,hy,rfl,ht⟩ ⟨by simpa [Ef] using hr,by simpa [Ef] using hc,hg⟩)
   case o9 =>
    rintro L _ W h0 hpre ⟨v,rfl,hv,hr,hc,hg⟩ K hK;obtain⟨t,y,hy,e3,ht⟩:=hv 8 (hpre 8 (by simp));obtain⟨u,hu,hcell⟩:=ht.cell (show y<Ly.length from hy);go_simp;exact hK.out _ _ (Bm.next hv 9 _ (by simp[e3]) (V5.keep (Cv.refl _ _)) ⟨u,hu,rfl⟩ ⟨by simpa [Ef] using hr,by simpa [Ef] using hc,hg⟩)
   case o10 =>
    rintro L _ W h0 hpre ⟨v,rfl,hv,hr,hc,hg⟩ K hK;obtain⟨u,hu,e4⟩:=hv 4 (hpre 4 (by simp));obtain⟨x,hx,e9⟩:=hv 9 (hpre 9 (by simp));go_simp;exact hK.out _ _ (Bm.next hv 10 _ (by simp[e4,e9]) (V5.keep (Cv.refl _ _)) ⟨u,hu,x,hx,rfl⟩ ⟨by simpa [Ef] using hr,by simpa [Ef] using hc,hg⟩)
   case o11 =>
    rintro L _ W h0 hpre ⟨v,rfl,hv,hr,hc,hg⟩ K hK;go_simp;refine hK.out _ _ (Bm.next hv 11 _ rfl (V5.keep (Cv.alloc _ _ _)) ⟨_,rfl,Al _ _,hg.size,Nat.lt_of_lt_of_le hp1 hg.size⟩ ⟨?_,by simpa [Ef] using hc,A1 hg (Dk (World.grownBy_alloc _ _ _) _)⟩);simpa [Ef] using hr.below ((Below.refl _ _).alloc (Nat.le_refl _) _)
   case o12 =>
    rintro L _ W h0 hpre ⟨v,rfl,hv,hr,hc,hg⟩ K hK;obtain⟨R,e11,hz,hR,hpR⟩:=hv 11 (hpre 11 (by simp));obtain⟨u,hu,x,hx,e10⟩:=hv 10 (hpre 10 (by simp));have h2:L 2=true:=hpre 2 (by simp);have h7:L 7=true:=hpre 7 (by simp);simp only[h2,h7,if_true]at hr;rw[if_pos (by rfl)];refine wp_store_row 46 _ _ rfl R #[.string u,.string x,.slice none 0 0] e11 e10 46 _ hz (by kernel_rfl) rfl (by first | rfl | kernel_rfl) ?_
    refine hK.out _ _ (NoPanic.normal ?_);have gs:W.grownBy (W.setRow R #[.string u,.string x,.slice none 0 0]) (some R):=⟨rfl,rfl,rfl,by rw[setRow_size];exact Nat.le_refl _,fun i _ hi=>setRow_other _ _ _ _ (fun e=>hi (by rw[e]))⟩;have hz5:(W.setRow R #[.string u,.string x,.slice none 0 0]).heap[R]?=some (.cells #[.string u,.string x,.slice none 0 0] 46 (0,0)):=setRow_heap _ _ _ _ _ _ hz;have hr5:=Bl.rd hr (Bl.of_grown (S:=[R]) gs (fun g hg=>by cases hg;simp)) (fun i hi=>by rw[List.mem_singleton.1 hi];exact hpR);have hg5:w1.grownBy (W.setRow R #[.string u,.string x,.slice none 0 0]) (some p):=⟨hg.os,hg.tape,hg.output,by rw[setRow_size];exact hg.size,fun i hi hne=>by rw[setRow_other _ _ _ _ (by omega)];exact hg.block i hi hne⟩;clear hK K;go_wp2_with fail
    go_meet;exact⟨R,u,x,e11,hz5,⟨Aih u hu,Aii x hx,hR⟩,hr5,hg5⟩
 case rest =>
  obtain⟨R,kind,name,rfl,hbox,⟨hkd,hnm,hRge⟩,hr2,hg2⟩:=hcut;have hp1:p<w1.heap.size:=by omega
  have HS0:Zw B p w1 R (k+2) ⟨kind,name,.slice none 0 0,[]⟩ wc:=⟨hr2,hg2,hbox,hRge,hp1,⟨⟨rfl,none,0,rfl,⟨Nat.le_refl _,Nat.zero_le _⟩,.inl rfl⟩,by simp⟩,fun q _=>⟨.inl rfl,by simp⟩,⟨.inl rfl,by simp⟩,by simp⟩;have HPK:=Bn B p (k+2) 8 wc hr2 (by omega) (by omega) (by omega);clear hbox hr2 hg2;go_wp2_with (go_at_call 44;refine HPK.mono ?_)
  rintro e w3 ⟨n0,hn0,rfl,hr3,hg3⟩;have HS3:=Aa (HS0.grown hg3 hr3);clear HPK HS0 hr3 hg3;go_wp2;go_loopw [4] (fun i wr=>Aik B p k w1 R kind name i wr) (fun i _=>(intOf i).toNat)
  case atStart=>exact⟨n0,k+2+1,⟨kind,name,.slice none 0 0,[]⟩,rfl,by omega,by simp;omega,by omega,rfl,rfl,HS3.out⟩
  case round =>
   obtain⟨m,kk,b,rfl,hm7,hlm,hkk,hbk,hbn,HS⟩:=hrel;obtain⟨la,lc,eb⟩:=HS.lin.1.form;obtain⟨bk,bn,bv,bl⟩:=b;simp only at hbk hbn eb hlm;subst hbk hbn eb;have k0:=Ab HS.box 0;have k1:=Ab HS.box 1;have k2:=Ab HS.box 2;simp only[List.getElem?_toArray,List.getElem?_cons_zero,List.getElem?_cons_succ]at k0 k1 k2;cases m with
   | zero =>
    have zW:wr.heap[w.heap.size]?=some (.cells #[.string ⟨#[]⟩,.string ⟨#[]⟩,.slice none 0 0] 46 (0,0)):=by rw[HS.gr.block w.heap.size (by omega) (by intro e;cases e;omega)];exact z1
    have HO:=Aa (HS.out (k:=k) rfl s1 G1 hp (by omega) (by simp only;omega) hnm hkd #[.string bk,.string bn,.slice la bl.length lc]);clear HS HS3;generalize bl.length=nl at *;go_wp2_with (with_reducible show wpList _ _ _ (Oper.mk _ (Op.store _ (Operand.tmp 2) _) _ _ _ _::_) _ _;refine wpList_store_row rfl 46 _ _ rfl w.heap.size #[.string bk,.string bn,.slice la nl lc] ?_ ?_ 46 _ zW ?_ ?_ ?_ ?_)
    all_goals (first | rfl | kernel_rfl | exact⟨rfl,rfl,rfl⟩ | (obtain⟨i9,e9,_,s9,_⟩:=info_parts Cn;exact⟨i9,e9,s9⟩) | skip)
    have z5:(wr.setRow w.heap.size #[.string bk,.string bn,.slice la nl lc]).heap[w.heap.size]?=some (.cells #[.string bk,.string bn,.slice la nl lc] 46 (0,0)):=setRow_heap _ _ _ _ _ _ zW;have y0:=Ab z5 0;have y1:=Ab z5 1;have y2:=Ab z5 2;simp only[List.getElem?_toArray,List.getElem?_cons_zero,List.getElem?_cons_succ]at y0 y1 y2;generalize wr.setRow w.heap.size #[.string bk,.string bn,.slice la nl lc]=W at HO y0 y1 y2 z5 ⊢;exact bodyPost_ret (v:=.agg #[.string bk,.string bn,.slice la nl lc]) (by simp[results,Tryz.results106,go_sem,y0,y1,y2]) rfl HO.out
   | succ m =>
    have hm1:((m+1:Nat):Int) > 0:=by omega
    have HL:=Zu B p kk bk wr HS.rd (by omega) hkd;have HSH:=Aa HS;have hRr:=HS.Rlt;have hw1r:=HS.gr.size;have hsm:Ae bl:=⟨by omega,fun x hx=>⟨Nat.le_trans (HS.small x hx).2.1 (by decide),fun y hy=>Nat.le_trans ((HS.small x hx).2.2 y hy) (by decide)⟩⟩;have hSM:=Aa hsm;clear HS HS3 hsm;go_wp2_with (go_at_call 165;refine HL.mono ?_)
    rintro e w2 ⟨key,xo,xc,k3,ws,hkey,rfl,o3,hw3,hws,hk3,h3,g3⟩;have HS2:=HSH.out.grown g3 h3;have hg3:=g3.size;have bx:=(Below.refl w2.heap.size w2).alloc (Nat.le_refl _) (.cells #[.string key,.slice xo ws.length xc] 115);have HSX:=HS2.below bx;have HXR:=Aa (Cd o3 bx);have HKEY:=Aa hkey;have HWS:=Aa hws;have j0:=Ab HSX.box 0;have j1:=Ab HSX.box 1;have j2:=Ab HSX.box 2;have xb:=Al w2 (.cells #[.string key,.slice xo ws.length xc] 115);have l0:=Ab xb 0;have l1:=Ab xb 1;simp only[List.getElem?_toArray,List.getElem?_cons_zero,List.getElem?_cons_succ]at j0 j1 j2 l0 l1;have hz2:w2.heap.size<(w2.alloc (.cells #[.string key,.slice xo ws.length xc] 115)).heap.size:=by simp
    have hRx:R<w2.heap.size:=HS2.Rlt;have hwr2:wr.heap.size≤w2.heap.size:=hg3;have HK:=Ab4 (b:=⟨bk,bn,.slice la bl.length lc,bl⟩) (x:=⟨key,.slice xo ws.length xc,ws⟩) HSX.lin hSM.out (Bo HXR.out) (by simp only;omega);have HSXH:=Aa HSX;clear HL HS2 HSX o3 hkey hws g3 h3 bx HSH;generalize keyN _ _=nK at HK;generalize sameN _ _=sK at HK;generalize hnl:bl.length=nl at *;have enl:=Aa hnl;clear hnl;generalize hnw:ws.length=nw at *;have enw:=Aa hnw;clear hnw;generalize hw2x:w2.alloc (.cells #[.string key,.slice xo nw xc] 115)=w2x at *;go_wp2_with (go_at_call 155;(try rw[hw2x]);refine HK.mono ?_)
    rintro e w5 ⟨rfl,b5⟩;have hz5:=b5.size;have HS5:=Aa (HSXH.out.below b5);have HX5:=Aa (Cd HXR.out b5);have m0:=(b5.cell (World.block_lt_of_cell? _ _ j0)).trans j0;have m1:=(b5.cell (World.block_lt_of_cell? _ _ j1)).trans j1;have m2:=(b5.cell (World.block_lt_of_cell? _ _ j2)).trans j2;have n0':=(b5.cell (World.block_lt_of_cell? _ _ l0)).trans l0;have n1':=(b5.cell (World.block_lt_of_cell? _ _ l1)).trans l1;obtain⟨z,hzR,hzk⟩:=HKEY.out;have hpick:Cp (rulesOf bk) key=some z:=by rw[← hzk];exact Af3 (Ki bk) hzR
    obtain⟨P,hP1,HSR⟩:=Agg hpick;have HPL:∀ W,Calls Tryz.prog 90 #[.string bk,.string key] W fun e w'=>e=.returned (.int .i64 (P:Int))∧Below W.heap.size W w':=by
     intro W;have:=Km bk key W;rw[hP1]at this;exact this
    clear HK j0 j1 j2 l0 l1 HXR HSXH hpick hP1 xb hw2x;go_upto_region 7 with fail
    go_cut [53] from 35 to 53 (fun c wx=>(∃ C:Bool,c=.bool C)∧Below w5.heap.size w5 wx)
    case first =>
     have v0:=fun p:Gr w5=>Ap m0 p
     have v1:=fun p:Gr w5=>Ap n0' p
     clear HS5 HX5 HKEY HWS hSM m0 m1 m2 n0' n1' hzR;by_cases hs0:sK=0
     ·subst hs0;by_cases hn0':nK=0
      ·subst hn0';refine Bf (by kernel_rfl) (by kernel_rfl) ?_;iterate 6 quiet_step (fail)
       iterate 11 (with_reducible refine Bt ?_ ?_;kernel_rfl;simp only[Act.put,List.setIfInBounds_toArray,List.set_cons_zero,List.set_cons_succ])
       iterate 2 quiet_step (fail)
       refine wpQuiet_nil ?_;rintro _ ⟨⟨wq,bq⟩,rfl⟩;go_wp2_with fail
       go_meet;exact⟨⟨_,rfl⟩,bq⟩
      ·have hnn:((nK:Int) == 0)=false:=by rw[beq_eq_false_iff_ne];omega
       refine Hb 19 19 (by kernel_rfl) rfl ?_;refine Jf [true,true,true,true,true,true,true,true,false,true,true,true,true,false,false,false,false,false,false] 7 rfl (by kernel_rfl) ?_;simp only[Ba,Bb,A9];iterate 12 (refine Dg (fun K hK=>?_);go_simp;refine hK _ ?_;clear hK K)
       refine Gh ?_;refine Iy (f:=6) (rs:=[8]) (by kernel_rfl) (by simp) ?_;rintro⟨wp,bp⟩;refine Ix.cons rfl (by decide) (fun K hK=>?_) Ix.nil;go_simp;go_wp2_with (go_at_call 56;refine(HSR _).mono ?_;rintro e w7 ⟨g7,m7,c7,key7,av,nv,cv,ad,cd,rfl,hm7,hc7,hr7,b7⟩)
       refine hK.out _ _ b7 ?_;clear hK K;have t2:=fun p:Gr w7=>Ap hc7.2.2.1 p
       have HQ7:∀ p:Gr w7,Calls Tryz.prog 90 #[.string bk,.string key] p.u fun e w'=>e=.returned (.int .i64 (P:Int))∧Below p.u.heap.size p.u w':=fun p=>HPL p.u
       obtain⟨hm71,hm72⟩:=hm7;refine Jf [false,false,false,false,false,false,false,false,false,false,false,false,false,true,true,true,true,true,true] 0 rfl (by kernel_rfl) ?_;simp only[Ba,Bb,A9];refine Dg (fun K hK=>?_);go_simp;apply Exists.intro;refine⟨fun _=>?_,hK _ ?_⟩;go_at_call 90
       exact HQ7 _;clear hK K;iterate 5 (refine Dg (fun K hK=>?_);go_simp;refine hK _ ?_;clear hK K)
       refine Gh ?_;refine Ab1 (by kernel_rfl) ?_ 0;rintro⟨wz,bz⟩;refine NoPanic.normal ?_;go_wp2_with fail
       go_meet;exact⟨⟨_,rfl⟩,bp.trans ((b7.trans (bz.mono b7.size)).mono bp.size)⟩
     ·have hss:((sK:Int) == 0)=false:=by rw[beq_eq_false_iff_ne];omega
      refine Bf (by kernel_rfl) (by kernel_rfl) ?_;iterate 3 quiet_step (fail)
      iterate 15 (with_reducible refine Bt ?_ ?_;kernel_rfl;simp only[Act.put,List.setIfInBounds_toArray,List.set_cons_zero,List.set_cons_succ])
      quiet_step (fail)
      refine wpQuiet_nil ?_;rintro _ ⟨⟨wq,bq⟩,rfl⟩;go_wp2_with fail
      go_meet;exact⟨⟨_,rfl⟩,bq⟩
    case rest =>
     obtain⟨w7,hw7⟩:∃ w7,w7=wc:=⟨_,rfl⟩;subst hw7;obtain⟨⟨C,rfl⟩,b7⟩:=hcut;have hz7:=b7.size;have HS7:=Aa (HS5.out.below b7);have HX7:=Aa (Cd HX5.out b7);clear HSR HPL;cases C
     ·clear m0 m1 m2 n0' n1' HS5 HX5;go_wp2;go_roundw;case rel=>exact⟨m,k3,⟨bk,bn,.slice la nl lc,bl⟩,by go_num,by omega,by have:=enl.out;simp only;omega,by omega,rfl,rfl,HS7.out⟩
      case measure=>simp[intOf]
     ·have HP:=Li (b:=⟨bk,bn,.slice la nl lc,bl⟩) (x:=⟨key,.slice xo nw xc,ws⟩) HS7.out.lin hSM.out (by have:=Bo HX7.out;show An _ _ _ _ _;rw[enw.out];exact this) (by simp only;rw[enw.out];omega);have q0:=(b7.cell (World.block_lt_of_cell? _ _ m0)).trans m0;have q1:=(b7.cell (World.block_lt_of_cell? _ _ m1)).trans m1;have q2:=(b7.cell (World.block_lt_of_cell? _ _ m2)).trans m2;have q3:=(b7.cell (World.block_lt_of_cell? _ _ n0')).trans n0';have q4:=(b7.cell (World.block_lt_of_cell? _ _ n1')).trans n1';clear m0 m1 m2 n0' n1' HS5 HX5;go_wp2_with (go_at_call 86;refine HP.mono ?_)
      rintro e w8 ⟨a8,n8,c8,ls8,rfl,h8,b8⟩;have HS8:=HS7.out.below b8;have hbox:=HS8.box;simp only at hbox;have hfx:∀ q,q<wr.heap.size→Cr q (.slice xo nw xc) ws.length:=fun q hq=>by rw[enw.out];exact Cr.above HX7.out hq
      have HPT:=Aa (HS8.put (v':=.slice a8 n8 c8) (ls':=ls8) h8.2.2.2.1 (fun q hq=>h8.2.2.2.2 q (by omega) (HS7.out.abv q hq) (hfx q (by omega))) (h8.2.2.2.2 R (by omega) HS7.out.farR (hfx R hRr)) (fun y hy=>by
       rcases h8.2.2.1 y hy with rfl | hy
       ·exact⟨HKEY.out,by simp only;rw[enw.out];exact hw3,HWS.out⟩
       ·exact HS7.out.small y hy))
      have hlen8:ls8.length=nl+1:=by have:=h8.2.1;have:=enl.out;simp only at *;omega
      clear HP h8 HS8 HS7 HX7 q0 q1 q2 q3 q4;go_wp2_with (with_reducible show wpList _ _ _ (Oper.mk _ (Op.store _ (Operand.tmp 3) _) _ _ _ _::_) _ _;refine wpList_store_row rfl 46 _ _ rfl R #[.string bk,.string bn,.slice a8 n8 c8] ?_ ?_ 46 _ hbox ?_ ?_ ?_ ?_)
      all_goals (first | rfl | kernel_rfl | exact⟨rfl,rfl,rfl⟩ | (obtain⟨i9,e9,_,s9,_⟩:=info_parts Cn;exact⟨i9,e9,s9⟩) | skip)
      go_roundw;case rel=>exact⟨m,k3,⟨bk,bn,.slice a8 n8 c8,ls8⟩,by go_num,by omega,by simp only;omega,by omega,rfl,rfl,HPT.out⟩
      case measure=>simp[intOf]
variable {bs bs':List BAt}{S d:Nat}{v:Value}
def E4(b:BAt):Prop:=b.name.size≤30∧b.ls.length≤7∧∀ x∈b.ls,x.ws.length≤3∧∀ y∈x.ws,y.length≤200
theorem E4.lines{b:BAt}(h:E4 b):Ae b.ls:=⟨Nat.le_trans h.2.1 (by decide),fun x hx=>⟨Nat.le_trans (h.2.2 x hx).1 (by decide),fun y hy=>Nat.le_trans ((h.2.2 x hx).2 y hy) (by decide)⟩⟩
theorem Hv(hl:bs.length≤1048576)(h:∀ b∈bs,E4 b):A2 bs:=⟨hl,fun b hb=>⟨Nat.le_trans (h b hb).1 (by decide),(h b hb).lines⟩⟩
theorem E4.same{b c:BAt}(h:E4 b)(e:c.plain=b.plain):E4 c:=by
 have e1:c.name=b.name:=congrArg PBlock.name e;have e2:c.ls.map LAt.plain=b.ls.map LAt.plain:=congrArg PBlock.lines e;refine⟨by rw[e1];exact h.1,by have:=congrArg List.length e2;simp at this;rw[this];exact h.2.1,fun x hx=>?_⟩;have:x.plain∈b.ls.map LAt.plain:=e2 ▸ List.mem_map_of_mem hx;obtain⟨y,hy,ey⟩:=List.mem_map.1 this;have e3:y.ws=x.ws:=congrArg PLine.ws ey;rw[← e3];exact h.2.2 y hy
theorem Ob{cs:List BAt}(h:∀ b∈bs,E4 b)(e:cs.map BAt.plain=bs.map BAt.plain):∀ c∈cs,E4 c:=fun c hc=>by
 have:c.plain∈bs.map BAt.plain:=e ▸ List.mem_map_of_mem hc;obtain⟨b,hb,eb⟩:=List.mem_map.1 this;exact(h b hb).same eb.symm
theorem Il.same{b c:BAt}(h:Il b)(e:c.plain=b.plain):Il c:=by
 have e1:c.kind=b.kind:=congrArg PBlock.kind e;have e2:c.ls.map LAt.plain=b.ls.map LAt.plain:=congrArg PBlock.lines e;refine⟨by rw[e1];exact h.1,fun x hx=>?_⟩;have:x.plain∈b.ls.map LAt.plain:=e2 ▸ List.mem_map_of_mem hx;obtain⟨y,hy,ey⟩:=List.mem_map.1 this;have e3:y.key=x.key:=congrArg PLine.key ey;rw[← e3];exact h.2 y hy
theorem Xo{cs:List BAt}(h:∀ b∈bs,Il b)(e:cs.map BAt.plain=bs.map BAt.plain):∀ c∈cs,Il c:=fun c hc=>by
 have:c.plain∈bs.map BAt.plain:=e ▸ List.mem_map_of_mem hc;obtain⟨b,hb,eb⟩:=List.mem_map.1 this;exact(h b hb).same eb.symm
structure Ym(B p:Nat)(w1:World)(S:Nat)(kk:Nat)(v:Value)(bs:List BAt)(W:World):Prop where
 rd:Rd B W p kk
 gr:w1.grownBy W (some p)
 box:W.heap[S]?=some (.cells #[v] 25 (0,0))
 Sge:w1.heap.size≤S
 plt:p<w1.heap.size
 bin:Aw W v bs
 abv:∀ q,q<w1.heap.size→Bk q v bs
 farS:Bk S v bs
 small:∀ b∈bs,E4 b
 smk:∀ b∈bs,Il b
theorem Ym.Slt(h:Ym B p w1 S kk v bs W):S<W.heap.size:=(Array.getElem?_eq_some_iff.1 h.box).1
theorem Ym.grown(h:Ym B p w1 S kk v bs W)(g:W.grownBy W' (some p))(r:Rd B W' p kk'):Ym B p w1 S kk' v bs W' :=
 ⟨r,A1 h.gr g,Cv.grown g S _ (Nat.lt_of_lt_of_le h.plt h.Sge) h.box,h.Sge,h.plt,h.bin.far (h.abv p h.plt) g,h.abv,h.farS,h.small,h.smk⟩
theorem Ym.below(h:Ym B p w1 S kk v bs W)(hb:Below W.heap.size W W'):Ym B p w1 S kk v bs W' :=
 ⟨h.rd.below hb,A1 h.gr (Bs hb _),by rw[hb.block S h.Slt];exact h.box,h.Sge,h.plt,h.bin.below hb,h.abv,h.farS,h.small,h.smk⟩
theorem Ym.put(h:Ym B p w1 S kk v bs W)(hl:Aw W v' bs')(fp:∀ q,q<w1.heap.size→Bk q v' bs')(fS:Bk S v' bs')(hs:∀ x∈bs',E4 x)(hk:∀ x∈bs',Il x):Ym B p w1 S kk v' bs' (W.setRow S #[v']):=by
 have gs:=Bx W S #[v'];have hpS:=Nat.lt_of_lt_of_le h.plt h.Sge;refine⟨Bl.rd h.rd (Bl.of_grown (S:=[S]) gs (fun g hg=>by cases hg;simp)) (fun i hi=>by rw[List.mem_singleton.1 hi];exact hpS),⟨h.gr.os,h.gr.tape,h.gr.output,by rw[setRow_size];exact h.gr.size,fun i hi hne=>?_⟩,setRow_heap _ _ _ _ _ _ h.box,h.Sge,h.plt,hl.far fS gs,fp,fS,hs,hk⟩;have:=h.Sge;rw[setRow_other _ _ _ _ (by omega)];exact h.gr.block i hi hne
def Aeo(d B p k:Nat)(w:World)(e:Ending)(w':World):Prop:=∃(v:Value) (bs:List BAt) (k':Nat),e=.returned (.agg #[v])∧k'≤k+d∧Rd B w' p k'∧w.grownBy w' (some p)∧As w.heap.size w' v bs∧bs.length≤60∧(∀ b∈bs,E4 b)∧∀ b∈bs,Il b
theorem Ym.out{v5:Value}{bs5:List BAt}(h:Ym B p w1 S kk v bs W)(hs1:w1.heap.size=w.heap.size+1)(hw:w.grownBy w1 (some p))(hp:p<w.heap.size)(hk:kk≤k+d)(hl:bs.length≤60)(he:bs5.map BAt.plain=bs.map BAt.plain)(ho:As W.heap.size W' v5 bs5)(hb:Below W.heap.size W W')(cs:Array Value):Aeo d B p k w (.returned (.agg #[v5])) (W'.setRow w.heap.size cs):=by
 have gs:=Bx W' w.heap.size cs;have h5:=h.below hb;have hz:=h.gr.size;refine⟨v5,bs5,kk,rfl,hk,Bl.rd h5.rd (Bl.of_grown (S:=[w.heap.size]) gs (fun g hg=>by cases hg;simp)) (fun i hi=>by rw[List.mem_singleton.1 hi];exact hp),⟨h5.gr.os.trans hw.os,h5.gr.tape.trans hw.tape,h5.gr.output.trans hw.output,?_,fun i hi hne=>?_⟩,(ho.setRow w.heap.size (by omega) cs).mono (by omega),?_,Ob h.small he,Xo h.smk he⟩
 ·rw[setRow_size];have:=h5.gr.size;omega
 ·rw[setRow_other _ _ _ _ (by omega),h5.gr.block i (by omega) hne];exact hw.block i hi hne
 ·have:=congrArg List.length he;simp at this;omega
def Ahq(B p k:Nat)(w1:World)(S:Nat)(i:Value)(W:World):Prop:=∃(m kk:Nat) (v:Value) (bs:List BAt),i=.int .i64 (m:Int)∧m≤5∧bs.length+m≤5∧kk+100 * m≤k+501∧Ym B p w1 S kk v bs W
def Ail(B p k n:Nat)(w1:World)(S:Nat)(i:Value)(W:World):Prop:=∃(m:Nat) (v:Value) (bs:List BAt),i=.int .i64 (m:Int)∧m≤bs.length∧bs.length≤n∧Ym B p w1 S k v bs W
theorem Ach(i:Nat)(hi:i≤60):(Lib.decDigits i).length≤7:=by rw[Lib.decDigits_length];exact J7 _ (by omega)
theorem Aci(w:World)(m:Nat)(h:m≤60):∃ ds:ByteArray,ds.size≤7∧∀ q:Gr w,Calls Tryz.prog 85 #[.int .i64 (m:Int)] q.u fun e w'=>e=.returned (.string ds)∧Below q.u.heap.size q.u w' :=
 ⟨⟨(Lib.decDigits m).toArray⟩,by show (Lib.decDigits m).toArray.size≤7;rw[List.size_toArray];exact Ach m h,fun q=>Ry m q.u (by omega)⟩
def Oc(ds:ByteArray):ByteArray:=⟨#[110]⟩++ds
def Ks(nm:ByteArray):BAt:=⟨⟨#[98,101,114,116,104]⟩,nm,.slice none 0 0,[]⟩
theorem Acj(nm:ByteArray)(hb:Aw w v bs)(hl:bs.length≤1048576):Calls Tryz.prog 54 #[.agg #[v],.agg #[.string ⟨#[98,101,114,116,104]⟩,.string nm,.slice none 0 0]] w fun e w'=>Tm v bs (Ks nm) w e w' :=
 C7 (x:=Ks nm) hb hl ⟨⟨rfl,none,0,rfl,⟨Nat.le_refl _,Nat.zero_le _⟩,.inl rfl⟩,by intro x hx;cases hx⟩
theorem Xp(ds:ByteArray)(h:ds.size≤7):E4 (Ks (Oc ds)):=by
 refine⟨?_,Nat.zero_le _,by intro x hx;cases hx⟩;show (Oc ds).size≤30
 unfold Oc;rw[ByteArray.size_append];show 1+ds.size≤30
 omega
theorem Ack(nm:ByteArray):Il (Ks nm):=⟨show (⟨#[98,101,114,116,104]⟩:ByteArray).size≤20 by decide,by intro x hx;cases hx⟩
theorem Ss(q:Nat)(nm:ByteArray):Aj q (Ks nm).v (Ks nm).ls:=⟨.inl rfl,by intro x hx;cases hx⟩
theorem Zx(B p k:Nat)(w:World)(h:Rd B w p k)(hk:k≤600000):Calls Tryz.prog 78 #[.pointer (some ⟨p,0,none⟩)] w fun e w'=>Aeo 600 B p k w e w':=by
 have hp:=h.lt;have hr1:Rd B (w.alloc (.cells #[.slice none 0 0] 25)) p k:=h.below ((Below.refl _ _).alloc (Nat.le_refl _) _);have G1:w.grownBy (w.alloc (.cells #[.slice none 0 0] 25)) (some p):=Dk (World.grownBy_alloc _ _ _) _;have z1:=Al w (.cells #[.slice none 0 0] 25);have s1:(w.alloc (.cells #[.slice none 0 0] 25)).heap.size=w.heap.size+1:=by simp
 have z2:=Al (w.alloc (.cells #[.slice none 0 0] 25)) (.cells #[.slice none 0 0] 25);have bA:=(Below.refl (w.heap.size+1) (w.alloc (.cells #[.slice none 0 0] 25))).alloc (by simp) (.cells #[.slice none 0 0] 25);rw[s1]at z2;generalize hw1:w.alloc (.cells #[.slice none 0 0] 25)=w1 at *;have ew1:=Aa hw1;clear hw1;have HS0:Ym B p w1 (w.heap.size+1) k (.slice none 0 0) [] (w1.alloc (.cells #[.slice none 0 0] 25)):=⟨hr1.below (by rw[s1];exact bA),Bs (by rw[s1];exact bA) _,z2,by omega,by omega,⟨⟨rfl,none,0,rfl,⟨Nat.le_refl _,Nat.zero_le _⟩,.inl rfl⟩,by simp⟩,fun q _=>⟨.inl rfl,by simp⟩,⟨.inl rfl,by simp⟩,by simp,by simp⟩;clear z2 bA hr1;generalize hw2:w1.alloc (.cells #[.slice none 0 0] 25)=w2 at *;have ew2:=Aa hw2;clear hw2;have HPK:=Bn B p k 6 w2 HS0.rd (by omega) (by omega) (by omega);go_enter Tryz.func78,Tryz.ntmps78;go_wp2_with (go_at_call 44;rw[ew1.out,ew2.out];refine HPK.mono ?_)
 rintro e w3 ⟨n0,hn0,rfl,hr3,hg3⟩;have HS3:=Aa (HS0.grown hg3 hr3);clear HPK HS0 hr3 hg3;go_wp2;go_loopw [4] (fun i wr=>Ahq B p k w1 (w.heap.size+1) i wr) (fun i _=>(intOf i).toNat)
 case atStart=>exact⟨n0,k+1,.slice none 0 0,[],rfl,by omega,by simp;omega,by omega,HS3.out⟩
 case round =>
  obtain⟨m,kk,v,bs,rfl,hm5,hlm,hkk,HS⟩:=hrel;obtain⟨sa,sc,rfl⟩:=HS.bin.1.form;have c0:=Ab HS.box 0;simp only[List.getElem?_toArray,List.getElem?_cons_zero]at c0;clear HS3;cases m with
  | zero =>
   have HP1:=Bn B p kk 24 wr HS.rd (by omega) (by omega) (by omega);have HSZ:=Aa HS;clear HS;go_wp2_with (go_at_call 44;refine HP1.mono ?_)
   rintro e w4 ⟨y,hy,rfl,hr4,hg4⟩;have HS4:=HSZ.out.grown hg4 hr4;have c4:=Ab HS4.box 0;simp only[List.getElem?_toArray,List.getElem?_cons_zero]at c4;clear HP1 HSZ hr4 hg4 c0;by_cases hy0:y=0
   ·subst hy0;have HP2:=Bn B p (kk+1) 2 w4 HS4.rd (by omega) (by omega) (by omega);have HSZ:=Aa HS4;clear HS4;go_wp2_with (go_at_call 44;refine HP2.mono ?_)
    rintro e w5 ⟨x,hx,rfl,hr5,hg5⟩;have HS5:=Aa (HSZ.out.grown hg5 hr5);clear HP2 HSZ hr5 hg5 c4;have hx60:(60:Int) - (x:Int)=((60 - x:Nat):Int):=by omega
    go_wp2;generalize hnn:60 - x=n at *;have hn60:n≤60:=by omega
    have hn59:59≤n:=by omega
    clear hnn hx60 hx;go_loopw [7] (fun i wr=>Ail B p (kk+1+1) n w1 (w.heap.size+1) i wr) (fun i W=>61 - (intOf i).toNat)
    case atStart=>exact⟨0,.slice sa bs.length sc,bs,rfl,by omega,by omega,HS5.out⟩
    case round =>
     obtain⟨m2,v,bs2,rfl,hm2,hl2,HS⟩:=hrel;obtain⟨ta,tc,rfl⟩:=HS.bin.1.form;have c6:=Ab HS.box 0;simp only[List.getElem?_toArray,List.getElem?_cons_zero]at c6;clear HS5;by_cases hlt:bs2.length<n
     ·have hlt':((bs2.length:Int)<(n:Int)):=by omega
      obtain⟨ds,hds,HD⟩:∃ ds:ByteArray,ds.size≤7∧∀ q:Gr wr,Calls Tryz.prog 85 #[.int .i64 (m2:Int)] q.u fun e w'=>e=.returned (.string ds)∧Below q.u.heap.size q.u w':=Aci wr m2 (by omega)
      have HPB:∀ q:Gr wr,Calls Tryz.prog 54 #[.agg #[.slice ta bs2.length tc],.agg #[.string ⟨#[98,101,114,116,104]⟩,.string (Oc ds),.slice none 0 0]] q.u fun e w'=>Tm (.slice ta bs2.length tc) bs2 (Ks (Oc ds)) q.u e w':=fun q=>Acj (Oc ds) (HS.bin.below q.h) (Nat.le_trans (Nat.le_of_lt hlt) (Nat.le_trans hn60 (by decide)))
      generalize hNM:Ks (Oc ds)=bb at HPB;have eNM:=Aa hNM;clear hNM;unfold Oc at HPB;have hcat:¬ 9223372036854775807<1+ds.size:=by omega
      have v0:=fun q:Gr wr=>Ap c6 q
      have HSX:=Aa (Xp ds hds);have HSH:=Aa HS;clear HS;go_upto_region 13 with fail
      refine Hb 6 7 (by kernel_rfl) rfl ?_;refine Jf [true,true,true,true,true,false,false] 2 rfl (by kernel_rfl) ?_;simp only[Ba,Bb,A9];iterate 2 (refine Dg (fun K hK=>?_);go_simp;refine hK _ ?_;clear hK K)
      refine Dg (fun K hK=>?_);go_simp;apply Exists.intro;refine⟨fun _=>?_,hK _ ?_⟩;go_at_call 85
      exact HD _;clear hK K;iterate 2 (refine Dg (fun K hK=>?_);go_simp;refine hK _ ?_;clear hK K)
      refine Gh ?_;refine Iy (f:=1) (rs:=[5]) (by kernel_rfl) (by simp) ?_;rintro⟨wp,bp⟩;refine Ix.cons rfl (by decide) (fun K hK=>?_) Ix.nil;go_simp;go_wp2_with (go_at_call 54;refine(HPB ⟨wp,bp⟩).mono ?_;rintro e w7 ⟨a7,n7,c7,bs7,rfl,h7,b7⟩)
      refine hK.out _ _ b7 ?_;clear hK K;refine Np (by kernel_rfl) rfl (by kernel_rfl) ?_;rintro⟨wz,bz⟩ K hK;have Bp:=bp.trans ((b7.trans (bz.mono b7.size)).mono bp.size);have HSz:=HSH.out.below Bp;have hbox:=HSz.box;have hwpz:=bp.size;have hSr:=HSH.out.Slt;have hw1r:=HSH.out.gr.size;have HPT:=HSz.put (v':=.slice a7 n7 c7) (bs':=bs7) (h7.2.2.2.1.below bz) (fun q hq=>h7.2.2.2.2 q (by show q<wp.heap.size;omega) (HSH.out.abv q hq) (by rw[← eNM.out];exact Ss q _)) (h7.2.2.2.2 _ (by show _<wp.heap.size;omega) HSH.out.farS (by rw[← eNM.out];exact Ss _ _)) (fun y hy=>by
       rcases h7.2.2.1 y hy with rfl | hy
       ·rw[← eNM.out];exact HSX.out
       ·exact HSH.out.small y hy) (fun y hy=>by
       rcases h7.2.2.1 y hy with rfl | hy
       ·rw[← eNM.out];exact Ack _
       ·exact HSH.out.smk y hy)
      have hlen7:=h7.2.1;rw[if_pos (by rfl)];refine wp_store_row 25 _ _ rfl (w.heap.size+1) #[.slice a7 n7 c7] rfl rfl 25 _ hbox (by first | kernel_rfl | exact A7) rfl (by first | rfl | kernel_rfl) ?_
      refine hK.out _ _ (NoPanic.normal ?_);clear hK K h7 hbox HSz;have HPH:=Aa HPT;clear HPT HPB HD;go_wp2;go_roundw;case rel=>exact⟨m2+1,.slice a7 n7 c7,bs7,by go_num,by omega,by omega,HPH.out⟩
      case measure=>simp[intOf];omega
     ·have hlt':¬ ((bs2.length:Int)<(n:Int)):=by omega
      have HC:=Gq HS.bin (Hv (by omega) HS.small);have HSH:=Aa HS;have hWz:=HS.gr.size;have zW:wr.heap[w.heap.size]?=some (.cells #[.slice none 0 0] 25 (0,0)):=by rw[HS.gr.block w.heap.size (by omega) (by intro e;cases e;omega)];exact z1
      clear HS;go_wp2_with (go_at_call 55;refine HC.mono ?_)
      first | rintro e w9 v9 rfl bs9 hp9 o9 b9 | rintro e w9 v9 bs9 rfl hp9 o9 b9 | rintro e w9 ⟨v9,bs9,rfl,hp9,o9,b9⟩
      have z9:=(b9.block w.heap.size (by omega)).trans zW;obtain⟨a9,c9,rfl,_⟩:=Ai o9.row;have HO:=Aa (HSH.out.out (d:=600) (k:=k) s1 G1 hp (by omega) (by omega) hp9 o9 b9 #[.slice a9 bs9.length c9]);clear HC HSH o9 hp9 b9 zW;generalize bs9.length=n9 at *;go_wp2_with (with_reducible show wpList _ _ _ (Oper.mk _ (Op.store _ (Operand.tmp 2) _) _ _ _ _::_) _ _;refine wpList_store_row rfl 25 _ _ rfl w.heap.size #[.slice a9 n9 c9] ?_ ?_ 25 _ z9 ?_ ?_ ?_ ?_)
      all_goals (first | rfl | kernel_rfl | exact A7 | skip)
      have z5:(w9.setRow w.heap.size #[.slice a9 n9 c9]).heap[w.heap.size]?=some (.cells #[.slice a9 n9 c9] 25 (0,0)):=setRow_heap _ _ _ _ _ _ z9;have y0:=Ab z5 0;simp only[List.getElem?_toArray,List.getElem?_cons_zero]at y0;generalize w9.setRow w.heap.size #[.slice a9 n9 c9]=W at HO y0 z5 ⊢;exact bodyPost_ret (v:=.agg #[.slice a9 n9 c9]) (by simp[results,Tryz.results78,go_sem,y0]) rfl HO.out
   ·have hy1:((y:Int) == 0)=false:=by rw[beq_eq_false_iff_ne];omega
    have HS:=HS4;clear HS4;have HC:=Gq HS.bin (Hv (by omega) HS.small);have HSH:=Aa HS;have hWz:=HS.gr.size;have zW:w4.heap[w.heap.size]?=some (.cells #[.slice none 0 0] 25 (0,0)):=by rw[HS.gr.block w.heap.size (by omega) (by intro e;cases e;omega)];exact z1
    clear HS;go_wp2_with (go_at_call 55;refine HC.mono ?_)
    first | rintro e w9 v9 rfl bs9 hp9 o9 b9 | rintro e w9 v9 bs9 rfl hp9 o9 b9 | rintro e w9 ⟨v9,bs9,rfl,hp9,o9,b9⟩
    have z9:=(b9.block w.heap.size (by omega)).trans zW;obtain⟨a9,c9,rfl,_⟩:=Ai o9.row;have HO:=Aa (HSH.out.out (d:=600) (k:=k) s1 G1 hp (by omega) (by omega) hp9 o9 b9 #[.slice a9 bs9.length c9]);clear HC HSH o9 hp9 b9 zW;generalize bs9.length=n9 at *;go_wp2_with (with_reducible show wpList _ _ _ (Oper.mk _ (Op.store _ (Operand.tmp 2) _) _ _ _ _::_) _ _;refine wpList_store_row rfl 25 _ _ rfl w.heap.size #[.slice a9 n9 c9] ?_ ?_ 25 _ z9 ?_ ?_ ?_ ?_)
    all_goals (first | rfl | kernel_rfl | exact A7 | skip)
    have z5:(w9.setRow w.heap.size #[.slice a9 n9 c9]).heap[w.heap.size]?=some (.cells #[.slice a9 n9 c9] 25 (0,0)):=setRow_heap _ _ _ _ _ _ z9;have y0:=Ab z5 0;simp only[List.getElem?_toArray,List.getElem?_cons_zero]at y0;generalize w9.setRow w.heap.size #[.slice a9 n9 c9]=W at HO y0 z5 ⊢;exact bodyPost_ret (v:=.agg #[.slice a9 n9 c9]) (by simp[results,Tryz.results78,go_sem,y0]) rfl HO.out
  | succ m =>
   have hm1:((m+1:Nat):Int) > 0:=by omega
   have HD:=Ho B p kk wr HS.rd (by omega);have HSH:=Aa HS;have hSr:=HS.Slt;have hw1r:=HS.gr.size;clear HS;go_wp2_with (go_at_call 106;refine HD.mono ?_)
   rintro e w4 ⟨b,k4,rfl,hk4,hr4,hg4,⟨hbl,hbf⟩,hbn,hbl7,hbs,hbk⟩;obtain⟨ba,bc,eb⟩:=hbl.1.form;obtain⟨bk,bn,bv,bl⟩:=b;simp only at hbl hbf hbn hbl7 hbs eb;subst eb;have HSK:=Aa (show ∀ q,Il ⟨bk,bn,.slice ba q bc,bl⟩ from fun _=>hbk);clear hbk;have HS4:=HSH.out.grown hg4 hr4;have hg4s:=hg4.size;have bx:=(Below.refl w4.heap.size w4).alloc (Nat.le_refl _) (.cells #[.string bk,.string bn,.slice ba bl.length bc] 46);have HS5:=HS4.below bx;have xb:=Al w4 (.cells #[.string bk,.string bn,.slice ba bl.length bc] 46);have l0:=Ab xb 0;have l1:=Ab xb 1;have l2:=Ab xb 2;have c5:=Ab HS5.box 0;simp only[List.getElem?_toArray,List.getElem?_cons_zero,List.getElem?_cons_succ]at l0 l1 l2 c5;have HBL:=Aa (hbl.below bx);have HBF:=Aa hbf;have HSB:=Aa (show E4 ⟨bk,bn,.slice ba bl.length bc,bl⟩ from⟨by simp only;omega,hbl7,hbs⟩);have HF:=Qe bk bn HS5.bin (by omega);have HS5H:=Aa HS5;have hz4:(w4.alloc (.cells #[.string bk,.string bn,.slice ba bl.length bc] 46)).heap.size=w4.heap.size+1:=by simp
   clear HD HSH HS4 HS5 hbl hbf hbs hr4 hg4 bx xb c0;generalize hnl:bl.length=nl at *;clear hnl;generalize hw5:w4.alloc (.cells #[.string bk,.string bn,.slice ba nl bc] 46)=w5 at *;go_wp2_with (go_at_call 52;(try rw[hw5]);refine HF.mono ?_)
   first | rintro e w6 hf b6 | rintro e w6 ⟨hf,b6⟩
   have HS6:=HS5H.out.below b6;have e0:=(b6.cell (World.block_lt_of_cell? _ _ l0)).trans l0;have e1:=(b6.cell (World.block_lt_of_cell? _ _ l1)).trans l1;have e2:=(b6.cell (World.block_lt_of_cell? _ _ l2)).trans l2;have e3:=(b6.cell (World.block_lt_of_cell? _ _ c5)).trans c5;have hz6:=b6.size;have HBL6:=Aa (HBL.out.below b6);have HS6H:=Aa HS6;clear HF HS5H HBL l0 l1 l2 c5 HS6 hw5;rcases hf with ⟨_,rfl⟩ | ⟨D,x,T,_,_,rfl⟩
   ·have HPB:=C7 (x:=⟨bk,bn,.slice ba nl bc,bl⟩) HS6H.out.bin (by omega) HBL6.out;go_wp2_with (go_at_call 54;refine HPB.mono ?_)
    rintro e w7 ⟨a7,n7,c7,bs7,rfl,h7,b7⟩;have HS7:=HS6H.out.below b7;have hbox:=HS7.box;have HPT:=Aa (HS7.put (v':=.slice a7 n7 c7) (bs':=bs7) h7.2.2.2.1 (fun q hq=>h7.2.2.2.2 q (by omega) (HS6H.out.abv q hq) (HBF.out q (by omega))) (h7.2.2.2.2 _ (by omega) HS6H.out.farS (HBF.out _ hSr)) (fun y hy=>by
     rcases h7.2.2.1 y hy with rfl | hy
     ·exact HSB.out
     ·exact HS6H.out.small y hy) (fun y hy=>by
     rcases h7.2.2.1 y hy with rfl | hy
     ·exact HSK.out _
     ·exact HS6H.out.smk y hy))
    have hlen7:=h7.2.1;clear HPB h7 HS7 HS6H HBL6 e0 e1 e2 e3;go_wp2_with (with_reducible show wpList _ _ _ (Oper.mk _ (Op.store _ (Operand.tmp 3) _) _ _ _ _::_) _ _;refine wpList_store_row rfl 25 _ _ rfl (w.heap.size+1) #[.slice a7 n7 c7] ?_ ?_ 25 _ hbox ?_ ?_ ?_ ?_)
    all_goals (first | rfl | kernel_rfl | exact A7 | skip)
    go_roundw;case rel=>exact⟨m,k4,.slice a7 n7 c7,bs7,by go_num,by omega,by omega,by omega,HPT.out⟩
    case measure=>simp[intOf]
   ·have hnn:¬ ((D.length:Int)<0):=by omega
    clear e0 e1 e2 e3;go_wp2;go_roundw;case rel=>exact⟨m,k4,_,bs,by go_num,by omega,by omega,by omega,HS6H.out⟩
    case measure=>simp[intOf]
variable {c q X Y g n cap':Nat}{ls:List LAt}{D T:List BAt}{y:BAt}{bk bn bk' bn':ByteArray}{bv:Value}
theorem Acl(B p k:Nat)(w:World)(h:Rd B w p k)(hk:k≤1000000):Calls Tryz.prog 44 #[.pointer (some ⟨p,0,none⟩),.int .i64 0] w fun e w'=>e=.returned (.int .i64 0)∧Rd B w' p (k+1)∧w.grownBy w' (some p):=by
 have hst:=h.step;obtain⟨hB,a,len,cap,hb,hl,hrest⟩:=h;have c0:w.cell? ⟨p,0,none⟩=some (.slice a len cap):=by rw[Lib.cell_of_heap hb];rfl
 have c1:w.cell? ⟨p,1,none⟩=some (.int .i64 (k:Int)):=by rw[Lib.cell_of_heap hb];rfl
 have f1:w.frozen? ⟨p,1,none⟩=false:=Lib.frozen_of_heap hb 1;clear hrest;go_enter Tryz.func44,Tryz.ntmps44;go_wp2;go_ret;exact⟨rfl,hst.1,hst.2⟩
def Agn(n B p k:Nat)(w:World)(e:Ending)(w':World):Prop:=∃ x:Nat,(x<n∨n=0∧x=0)∧e=.returned (.int .i64 (x:Int))∧Rd B w' p (k+1)∧w.grownBy w' (some p)
theorem Xq(B p k n:Nat)(w:World)(h:Rd B w p k)(hn:n≤1000)(hk:k≤1000000):Calls Tryz.prog 44 #[.pointer (some ⟨p,0,none⟩),.int .i64 (n:Int)] w fun e w'=>Agn n B p k w e w':=by
 by_cases h0:n=0
 ·subst h0;refine(Acl B p k w h hk).mono ?_;rintro e w' ⟨rfl,h1,h2⟩;exact⟨0,.inr ⟨rfl,rfl⟩,rfl,h1,h2⟩
 ·refine(Bn B p k n w h (by omega) hn hk).mono ?_;rintro e w' ⟨x,hx,rfl,h1,h2⟩;exact⟨x,.inl hx,rfl,h1,h2⟩
def E5(name:ByteArray)(ls:List LAt):Prop:=name.size≤1048576∧Ae ls
theorem E4.x{b:BAt}(h:E4 b):E5 b.name b.ls:=⟨Nat.le_trans h.1 (by decide),h.lines⟩
def Eg(c:Nat)(G:List Nat)(W:World)(v:Value)(ls:List LAt):Prop:=Ah W v ls∧(∀ q∈G,Aj q v ls)∧∀ q,q<c→Aj q v ls
theorem Eg.grown{G:List Nat}(h:Eg c G W v ls)(hg:W.grownBy W' (some q))(hq:q<c∨q∈G):Eg c G W' v ls:=⟨h.1.far (by rcases hq with hq | hq;exact h.2.2 q hq;exact h.2.1 q hq) hg,h.2⟩
theorem Eg.below{G:List Nat}(h:Eg c G W v ls)(hb:Below W.heap.size W W'):Eg c G W' v ls:=⟨h.1.below hb,h.2⟩
structure Im(B p c X Y:Nat)(w1:World)(D T:List BAt)(y:BAt)(g n cap kk:Nat)(bk bn:ByteArray)(bv:Value)(ls:List LAt)(W:World):Prop where
 rd:Rd B W p kk
 gr:w1.grownBy W (some p)
 plt:p<c
 cw:c=w1.heap.size
 xb:W.heap[X]?=some (.cells #[.slice (some ⟨g,0,none⟩) n cap] 25 (0,0))
 yb:W.heap[Y]?=some (.cells #[.string bk,.string bn,bv] 46 (0,0))
 cX:c≤X
 cY:c≤Y
 XY:X≠Y
 gX:g≠X
 gY:g≠Y
 row:W.ownsRow c 46 3 (.slice (some ⟨g,0,none⟩) n cap) n ((D++y::T).flatMap BAt.cells)
 len:(D++y::T).length=n
 few:n≤62
 oth:∀ x∈D++T,Eg c [g,X,Y] W x.v x.ls∧E5 x.name x.ls
 mine:Eg c [g,X,Y] W bv ls∧E5 bn ls
theorem Im.below{cap:Nat}(h:Im B p c X Y w1 D T y g n cap kk bk bn bv ls W)(hb:Below W.heap.size W W'):Im B p c X Y w1 D T y g n cap kk bk bn bv ls W' :=
 ⟨h.rd.below hb,A1 h.gr (Bs hb _),h.plt,h.cw,(hb.block X (Array.getElem?_eq_some_iff.1 h.xb).1).trans h.xb,(hb.block Y (Array.getElem?_eq_some_iff.1 h.yb).1).trans h.yb,h.cX,h.cY,h.XY,h.gX,h.gY,Cd h.row hb,h.len,h.few,fun x hx=>⟨(h.oth x hx).1.below hb,(h.oth x hx).2⟩,h.mine.1.below hb,h.mine.2⟩
theorem Im.grown{cap:Nat}(h:Im B p c X Y w1 D T y g n cap kk bk bn bv ls W)(hg:W.grownBy W' (some p))(hr:Rd B W' p kk'):Im B p c X Y w1 D T y g n cap kk' bk bn bv ls W':=by
 have hpX:p<X:=Nat.lt_of_lt_of_le h.plt h.cX;have hpY:p<Y:=Nat.lt_of_lt_of_le h.plt h.cY;exact⟨hr,A1 h.gr hg,h.plt,h.cw,Cv.grown hg X _ hpX h.xb,Cv.grown hg Y _ hpY h.yb,h.cX,h.cY,h.XY,h.gX,h.gY,Kx h.row hg h.plt,h.len,h.few,fun x hx=>⟨(h.oth x hx).1.grown hg (.inl h.plt),(h.oth x hx).2⟩,h.mine.1.grown hg (.inl h.plt),h.mine.2⟩
theorem Im.head{cap:Nat}(h:Im B p c X Y w1 D T y g n cap kk bk bn bv ls W)(hy:W'.heap[Y]?=some (.cells #[.string bk',.string bn',bv] 46 (0,0)))(hn:bn'.size≤1048576)(hg:W.grownBy W' (some Y)):Im B p c X Y w1 D T y g n cap kk bk' bn' bv ls W':=by
 have hX:X<W.heap.size:=(Array.getElem?_eq_some_iff.1 h.xb).1;have hgt:=(h.row.lt g rfl).1;refine⟨Bl.rd h.rd (Bl.of_grown (S:=[Y]) hg (fun q hq=>by cases hq;simp)) (fun i hi=>by rw[List.mem_singleton.1 hi];have:=h.cY;have:=h.plt;omega),⟨hg.os.trans h.gr.os,hg.tape.trans h.gr.tape,hg.output.trans h.gr.output,Nat.le_trans h.gr.size hg.size,fun i hi hne=>?_⟩,h.plt,h.cw,?_,hy,h.cX,h.cY,h.XY,h.gX,h.gY,World.ownsRow.kept h.row hg (.inr (fun e=>by cases e;exact h.gY rfl)),h.len,h.few,fun x hx=>⟨(h.oth x hx).1.grown hg (.inr (by simp)),(h.oth x hx).2⟩,⟨h.mine.1.grown hg (.inr (by simp)),hn,h.mine.2.2⟩⟩
 ·have hc:=h.cY;have hw:=h.cw;have:=h.gr.size;rw[hg.block i (by omega) (by intro e;cases e;omega)];exact h.gr.block i hi hne
 ·rw[hg.block X hX (by intro e;cases e;exact h.XY rfl)];exact h.xb
theorem Im.push{z:BAt}{g' cap:Nat}(h:Im B p c X Y w1 D T y g n cap kk bk bn bv ls W)(hg:W.grownBy W' (some g))(row':W'.ownsRow c 46 3 (.slice (some ⟨g',0,none⟩) (n+1) cap') (n+1) ((D++y::(T++[z])).flatMap BAt.cells))(hz:Eg c [g,X,Y] W z.v z.ls∧E5 z.name z.ls)(hg':g'=g∨W.heap.size≤g')(hX:g'≠X)(hY:g'≠Y)(few:n+1≤62):
  Im B p c X Y w1 D (T++[z]) y g' (n+1) cap' kk bk bn bv ls (W'.setCell ⟨X,0,none⟩ (.slice (some ⟨g',0,none⟩) (n+1) cap')):=by
 have hXl:X<W.heap.size:=(Array.getElem?_eq_some_iff.1 h.xb).1;have hYl:Y<W.heap.size:=(Array.getElem?_eq_some_iff.1 h.yb).1;have hgc:=(h.row.lt g rfl).1;have hcX:=h.cX;have hcw:=h.cw;have hws:=h.gr.size;have hgz:=hg.size;have hplt:=h.plt;have gS:W'.grownBy (W'.setCell ⟨X,0,none⟩ (.slice (some ⟨g',0,none⟩) (n+1) cap')) (some X):=⟨rfl,rfl,rfl,by simp,fun i _ hi=>heap_setCell_other W' ⟨X,0,none⟩ i _ (fun e=>hi (by simp[e]))⟩;have xb':W'.heap[X]?=some (.cells #[.slice (some ⟨g,0,none⟩) n cap] 25 (0,0)):=(hg.block X hXl (by intro e;cases e;exact h.gX rfl)).trans h.xb;have yb':W'.heap[Y]?=some (.cells #[.string bk,.string bn,bv] 46 (0,0)):=(hg.block Y hYl (by intro e;cases e;exact h.gY rfl)).trans h.yb;have hfr:∀ {v:Value} {ls:List LAt},Eg c [g,X,Y] W v ls→Eg c [g',X,Y] (W'.setCell ⟨X,0,none⟩ (.slice (some ⟨g',0,none⟩) (n+1) cap')) v ls:=fun {v ls} hf=>by
  refine⟨((hf.grown hg (.inr (by simp))).grown gS (.inr (by simp))).1,fun q hq=>?_,hf.2.2⟩;simp only[List.mem_cons,List.not_mem_nil,or_false]at hq;rcases hq with rfl | rfl | rfl
  ·rcases hg' with e | e
   ·rw[e];exact hf.2.1 g (by simp)
   ·exact hf.1.fresh e
  ·exact hf.2.1 _ (by simp)
  ·exact hf.2.1 _ (by simp)
 refine⟨?_,⟨gS.os.trans (hg.os.trans h.gr.os),gS.tape.trans (hg.tape.trans h.gr.tape),gS.output.trans (hg.output.trans h.gr.output),by have:=gS.size;omega,fun i hi hne=>?_⟩,h.plt,h.cw,?_,?_,h.cX,h.cY,h.XY,hX,hY,?_,?_,few,fun x hx=>?_,hfr h.mine.1,h.mine.2⟩
 ·have k1:=Bl.rd h.rd (Bl.of_grown (S:=[g]) hg (fun q hq=>by cases hq;simp)) (fun i hi=>by rw[List.mem_singleton.1 hi];omega);exact Bl.rd k1 (Bl.of_grown (S:=[X]) gS (fun q hq=>by cases hq;simp)) (fun i hi=>by rw[List.mem_singleton.1 hi];omega)
 ·rw[gS.block i (by omega) (by intro e;cases e;omega),hg.block i (by omega) (by intro e;cases e;omega)];exact h.gr.block i hi hne
 ·rw[heap_setCell_same W' X 0 _ _ _ xb'];rfl
 ·rw[gS.block Y (by omega) (by intro e;cases e;exact h.XY rfl)];exact yb'
 ·exact World.ownsRow.kept row' gS (.inr (fun e=>by cases e;exact hX rfl))
 ·have:=h.len;simp at this ⊢;omega
 ·rw[← List.append_assoc]at hx;rcases List.mem_append.1 hx with hx | hx
  ·exact⟨hfr (h.oth x hx).1,(h.oth x hx).2⟩
  ·rw[List.mem_singleton.1 hx];exact⟨hfr hz.1,hz.2⟩
theorem Im.lines{l:Nat}{cap:Nat}(h:Im B p c X Y w1 D T y g n cap kk bk bn y.v y.ls W)(own':As c W' (.slice (some ⟨g,0,none⟩) n cap) (D++{ y with ls:=ls' }::T))(hg:W.grownBy W' (some l))(hl:c≤l)(lX:l≠X)(lY:l≠Y)(hf:(∀ q∈[g,X,Y],Aj q y.v ls')∧∀ q,q<c→Aj q y.v ls')(hs:E5 bn ls'):Im B p c X Y w1 D T y g n cap kk bk bn y.v ls' W':=by
 have hXl:X<W.heap.size:=(Array.getElem?_eq_some_iff.1 h.xb).1;have hYl:Y<W.heap.size:=(Array.getElem?_eq_some_iff.1 h.yb).1;have hcw:=h.cw;have hws:=h.gr.size;have hplt:=h.plt;have hrow:=own'.row;have e1:(D++{ y with ls:=ls' }::T).length=n:=by rw[← h.len];simp
 have e2:(D++{ y with ls:=ls' }::T).flatMap BAt.cells=(D++y::T).flatMap BAt.cells:=by simp[BAt.cells]
 rw[e1,e2]at hrow;refine⟨Bl.rd h.rd (Bl.of_grown (S:=[l]) hg (fun q hq=>by cases hq;simp)) (fun i hi=>by rw[List.mem_singleton.1 hi];omega),⟨hg.os.trans h.gr.os,hg.tape.trans h.gr.tape,hg.output.trans h.gr.output,Nat.le_trans h.gr.size hg.size,fun i hi hne=>?_⟩,h.plt,h.cw,(hg.block X hXl (by intro e;cases e;exact lX rfl)).trans h.xb,(hg.block Y hYl (by intro e;cases e;exact lY rfl)).trans h.yb,h.cX,h.cY,h.XY,h.gX,h.gY,hrow,h.len,h.few,fun x hx=>⟨⟨(own'.lines x ?_).lin,(h.oth x hx).1.2⟩,(h.oth x hx).2⟩,⟨(own'.lines { y with ls:=ls' } (by simp)).lin,hf⟩,hs⟩
 ·rw[hg.block i (by omega) (by intro e;cases e;omega)];exact h.gr.block i hi hne
 ·simp only[List.mem_append,List.mem_cons]at hx ⊢;rcases hx with hx | hx
  ·exact .inl hx
  ·exact .inr (.inr hx)
def Gk(d B p k:Nat)(w:World)(e:Ending)(w':World):Prop:=∃(a:Option Addr) (n c:Nat) (bs:List BAt) (k':Nat),e=.returned (.agg #[.slice a n c])∧k'≤k+d∧Rd B w' p k'∧w.grownBy w' (some p)∧Aw w' (.slice a n c) bs∧(A2 bs∧bs.length≤62)∧∀ q,q<w.heap.size→Bk q (.slice a n c) bs
theorem Im.out{cap:Nat}(h:Im B p c X Y w1 D T y g n cap kk bk bn bv ls W)(hc:c=w.heap.size+2)(hw:w.grownBy w1 (some p))(hk:kk≤k+d)(hp:p<w.heap.size)(cs:Array Value):Gk d B p k w (.returned (.agg #[.slice (some ⟨g,0,none⟩) n cap])) ((W.setCells g (D.length * 3) [.string bk,.string bn,bv]).setRow (w.heap.size+1) cs)∧(W.setCells g (D.length * 3) [.string bk,.string bn,bv]).heap[X]?=W.heap[X]?∧W.there g (D.length * 3) 3∧(W.setCells g (D.length * 3) [.string bk,.string bn,bv]).heap[w.heap.size+1]?=W.heap[w.heap.size+1]?:=by
 have hgt:=h.row.lt g rfl;have hX:X<W.heap.size:=(Array.getElem?_eq_some_iff.1 h.xb).1;have hwz:=h.gr.size;have hcw:=h.cw;obtain⟨ys,y1,y2,y3⟩:=Ci [.string bk,.string bn,bv] (D.length * 3) W _ h.row;have hy:=y3 (D.flatMap BAt.cells) y.cells (T.flatMap BAt.cells) (by simp) (By _ 3 BAt.len D) (by rw[BAt.len];rfl);rw[hy]at y1;have gs:=Bx (W.setCells g (D.length * 3) [.string bk,.string bn,bv]) (w.heap.size+1) cs;have hlen:(D++(⟨bk,bn,bv,ls⟩:BAt)::T).length=n:=by rw[← h.len];simp
 have hall:∀ x∈D++(⟨bk,bn,bv,ls⟩:BAt)::T,Eg c [g,X,Y] W x.v x.ls∧E5 x.name x.ls:=by
  intro x hx;simp only[List.mem_append,List.mem_cons]at hx;rcases hx with hx | rfl | hx
  ·exact h.oth x (by simp[hx])
  ·exact h.mine
  ·exact h.oth x (by simp[hx])
 have hfin:Aw ((W.setCells g (D.length * 3) [.string bk,.string bn,bv]).setRow (w.heap.size+1) cs) (.slice (some ⟨g,0,none⟩) n cap) (D++(⟨bk,bn,bv,ls⟩:BAt)::T):=by
  refine⟨?_,fun x hx=>?_⟩
  ·rw[hlen];have:=Bo (Jr y1 (w.heap.size+1) (by omega) cs);simpa [BAt.cells] using this
  ·exact(((hall x hx).1.grown y2 (.inr (by simp))).grown gs (.inl (by omega))).1
 refine⟨⟨_,n,cap,D++(⟨bk,bn,bv,ls⟩:BAt)::T,kk,rfl,hk,?_,⟨?_,?_,?_,?_,fun i hi hne=>?_⟩,hfin,⟨⟨by rw[hlen];exact Nat.le_trans h.few (by decide),fun x hx=>(hall x hx).2⟩,by rw[hlen];exact h.few⟩,fun q hq=>⟨?_,fun x hx=>(hall x hx).1.2.2 q (by omega)⟩⟩,?_,Cx h.row _ _ ?_,?_⟩
 ·have k1:=Bl.rd h.rd (Bl.of_grown (S:=[g]) y2 (fun q hq=>by cases hq;simp)) (fun i hi=>by rw[List.mem_singleton.1 hi];omega);exact Bl.rd k1 (Bl.of_grown (S:=[w.heap.size+1]) gs (fun q hq=>by cases hq;simp)) (fun i hi=>by rw[List.mem_singleton.1 hi];omega)
 ·exact(gs.os.trans y2.os).trans (h.gr.os.trans hw.os)
 ·exact(gs.tape.trans y2.tape).trans (h.gr.tape.trans hw.tape)
 ·exact(gs.output.trans y2.output).trans (h.gr.output.trans hw.output)
 ·have:=gs.size;have:=y2.size;omega
 ·rw[gs.block i (by have:=y2.size;omega) (by intro e;cases e;omega),y2.block i (by omega) (by intro e;cases e;omega),h.gr.block i (by omega) hne];exact hw.block i hi hne
 ·rw[hlen];exact Cr.above h.row (by omega)
 ·exact y2.block X hX (by intro e;cases e;exact h.gX rfl)
 ·have:D.length+1≤n:=by rw[← h.len];simp
  omega
 ·exact y2.block (w.heap.size+1) (by omega) (by intro e;cases e;omega)
variable {α:Type}{m nl yc nw nI i base Z:Nat}{yk yn xk:ByteArray}{E:List LAt}{lv xv:Value}{J:Nat → World → Prop}{xs:List Value}
theorem Aj.same(h:Aj q v ls)(hl:ls'.length=ls.length)(hm:∀ x∈ls',∃ y∈ls,x.v=y.v∧x.ws.length=y.ws.length):Aj q v ls':=by
 refine⟨by rw[hl];exact h.1,fun x hx=>?_⟩;obtain⟨y,hy,e1,e2⟩:=hm x hx;rw[e1,e2];exact h.2 y hy
theorem Hc(W:World)(g j:Nat)(u:Value):W.grownBy (W.setCell ⟨g,j,none⟩ u) (some g):=⟨rfl,rfl,rfl,by simp,fun i _ hi=>heap_setCell_other W ⟨g,j,none⟩ i _ (fun e=>hi (by simp[e]))⟩
theorem mem_mid{A E:List α}{x x' z:α}(h:z∈A++x'::E):z=x'∨z∈A++x::E:=by
 simp only[List.mem_append,List.mem_cons]at h ⊢;rcases h with h | h | h
 ·exact .inr (.inl h)
 ·exact .inl h
 ·exact .inr (.inr (.inr h))
theorem Hy{l cp:Nat}(h:Cr q (.slice (some ⟨l,0,none⟩) m cp) n)(h0:0<n):l≠q:=by
 rcases h with h | h
 ·omega
 ·exact h l 0 m cp rfl
theorem Im.key{l:Nat}{A:List LAt}{x:LAt}{cap:Nat}(h:Im B p c X Y w1 D T ⟨yk,yn,.slice (some ⟨l,0,none⟩) nl yc,A++x::E⟩ g n cap kk bk bn (.slice (some ⟨l,0,none⟩) nl yc) (A++x::E) W)(own:As c W (.slice (some ⟨g,0,none⟩) n cap) (D++⟨yk,yn,.slice (some ⟨l,0,none⟩) nl yc,A++x::E⟩::T))(hn:(A++x::E).length=nl)(u:ByteArray):
  Im B p c X Y w1 D T ⟨yk,yn,.slice (some ⟨l,0,none⟩) nl yc,A++x::E⟩ g n cap kk bk bn (.slice (some ⟨l,0,none⟩) nl yc) (A++{ x with key:=u }::E) (W.setCell ⟨l,A.length * 2,none⟩ (.string u)):=by
 have hpos:0<(A++x::E).length:=by simp;omega
 have hfr:∀ q,Aj q (.slice (some ⟨l,0,none⟩) nl yc) (A++x::E)→l≠q∧Aj q (.slice (some ⟨l,0,none⟩) nl yc) (A++{ x with key:=u }::E):=fun q hq=>by
  refine⟨Hy hq.1 hpos,hq.same (by simp) fun z hz=>?_⟩;rcases mem_mid (x:=x) hz with rfl | hz
  ·exact⟨x,by simp,rfl,rfl⟩
  ·exact⟨z,hz,rfl,rfl⟩
 have hlm:=own.bm.lines.set hn 0 (.string u) { x with key:=u } (by decide) rfl rfl;have hback:=(BM.back (r:=⟨yk,yn,.slice (some ⟨l,0,none⟩) nl yc,A++x::E⟩) hlm).own;have hlc:=(own.lines _ (show (⟨yk,yn,.slice (some ⟨l,0,none⟩) nl yc,A++x::E⟩:BAt)∈D++⟨yk,yn,.slice (some ⟨l,0,none⟩) nl yc,A++x::E⟩::T by simp)).row.lt l rfl;refine Im.lines (l:=l) h hback (Hc W l _ _) hlc.1 (hfr X (h.mine.1.2.1 X (by simp))).1 (hfr Y (h.mine.1.2.1 Y (by simp))).1 ⟨fun q hq=>(hfr q (h.mine.1.2.1 q hq)).2,fun q hq=>(hfr q (h.mine.1.2.2 q hq)).2⟩ ⟨h.mine.2.1,by have:=h.mine.2.2.1;simp only[List.length_append,List.length_cons]at this ⊢;exact this,fun z hz=>?_⟩;rcases mem_mid (x:=x) hz with rfl | hz
 ·exact h.mine.2.2.2 x (by simp)
 ·exact h.mine.2.2.2 z hz
theorem Im.word{l r wc:Nat}{key:ByteArray}{A:List LAt}{s:List UInt8}{ss:List (List UInt8)}{cap:Nat}(h:Im B p c X Y w1 D T ⟨yk,yn,.slice (some ⟨l,0,none⟩) nl yc,A++⟨key,.slice (some ⟨r,0,none⟩) nw wc,s::ss⟩::E⟩ g n cap kk bk bn (.slice (some ⟨l,0,none⟩) nl yc) (A++⟨key,.slice (some ⟨r,0,none⟩) nw wc,s::ss⟩::E) W)(own:As c W (.slice (some ⟨g,0,none⟩) n cap) (D++⟨yk,yn,.slice (some ⟨l,0,none⟩) nl yc,A++⟨key,.slice (some ⟨r,0,none⟩) nw wc,s::ss⟩::E⟩::T))(t:ByteArray)(ht:t.size≤201):
  Im B p c X Y w1 D T ⟨yk,yn,.slice (some ⟨l,0,none⟩) nl yc,A++⟨key,.slice (some ⟨r,0,none⟩) nw wc,s::ss⟩::E⟩ g n cap kk bk bn (.slice (some ⟨l,0,none⟩) nl yc) (A++⟨key,.slice (some ⟨r,0,none⟩) nw wc,t.data.toList::ss⟩::E) (W.setCell ⟨r,0,none⟩ (.string t)):=by
 have hlm:=own.bm.lines;have hw:W.ownsRow c 9 1 (.slice (some ⟨r,0,none⟩) nw wc) (s::ss).length (strs (s::ss)):=hlm.words;have hnw:(s::ss).length=nw:=by
  obtain⟨a,cp,e,_⟩:=Ai hw;cases e
  rfl
 have hrc:=hw.lt r rfl;rw[hnw]at hw;have hst:=hw.stored 0 (.string t);have he:(strs (s::ss)).set 0 (.string t)=strs (t.data.toList::ss):=by simp[strs]
 rw[he]at hst;have hfr:∀ q,Aj q (.slice (some ⟨l,0,none⟩) nl yc) (A++⟨key,.slice (some ⟨r,0,none⟩) nw wc,s::ss⟩::E)→r≠q∧Aj q (.slice (some ⟨l,0,none⟩) nl yc) (A++⟨key,.slice (some ⟨r,0,none⟩) nw wc,t.data.toList::ss⟩::E):=fun q hq=>by
  refine⟨Hy (hq.2 ⟨key,.slice (some ⟨r,0,none⟩) nw wc,s::ss⟩ (by simp)) (by simp),hq.same (by simp) fun z hz=>?_⟩;rcases mem_mid (x:=⟨key,.slice (some ⟨r,0,none⟩) nw wc,s::ss⟩) hz with rfl | hz
  ·exact⟨⟨key,.slice (some ⟨r,0,none⟩) nw wc,s::ss⟩,by simp,rfl,by simp⟩
  ·exact⟨z,hz,rfl,rfl⟩
 have hturn:=hlm.turn (w':=W.setCell ⟨r,0,none⟩ (.string t)) (t.data.toList::ss) (by simp) (by rw[show (⟨key,.slice (some ⟨r,0,none⟩) nw wc,s::ss⟩:LAt).ws.length=nw from hnw];exact hst.1) hst.2;have hback:=(BM.back (r:=⟨yk,yn,.slice (some ⟨l,0,none⟩) nl yc,A++⟨key,.slice (some ⟨r,0,none⟩) nw wc,s::ss⟩::E⟩) hturn).own;refine Im.lines (l:=r) h hback (Hc W r _ _) hrc.1 (hfr X (h.mine.1.2.1 X (by simp))).1 (hfr Y (h.mine.1.2.1 Y (by simp))).1 ⟨fun q hq=>(hfr q (h.mine.1.2.1 q hq)).2,fun q hq=>(hfr q (h.mine.1.2.2 q hq)).2⟩ ⟨h.mine.2.1,by have:=h.mine.2.2.1;simp only[List.length_append,List.length_cons]at this ⊢;exact this,fun z hz=>?_⟩;rcases mem_mid (x:=⟨key,.slice (some ⟨r,0,none⟩) nw wc,s::ss⟩) hz with rfl | hz
 ·have hx:=h.mine.2.2.2 ⟨key,.slice (some ⟨r,0,none⟩) nw wc,s::ss⟩ (by simp);refine⟨by have:=hx.1;simp only[List.length_cons]at this ⊢;exact this,fun y hy=>?_⟩;rcases List.mem_cons.1 hy with rfl | hy
  ·have:t.data.toList.length=t.size:=rfl;omega
  ·exact hx.2 y (List.mem_cons_of_mem _ hy)
 ·exact h.mine.2.2.2 z hz
theorem Im.swap{l:Nat}{x0 x1:LAt}{cap:Nat}(h:Im B p c X Y w1 D T ⟨yk,yn,.slice (some ⟨l,0,none⟩) nl yc,x0::x1::E⟩ g n cap kk bk bn (.slice (some ⟨l,0,none⟩) nl yc) (x0::x1::E) W)(own:As c W (.slice (some ⟨g,0,none⟩) n cap) (D++⟨yk,yn,.slice (some ⟨l,0,none⟩) nl yc,x0::x1::E⟩::T))(hn:(x0::x1::E).length=nl):
  Im B p c X Y w1 D T ⟨yk,yn,.slice (some ⟨l,0,none⟩) nl yc,x0::x1::E⟩ g n cap kk bk bn (.slice (some ⟨l,0,none⟩) nl yc) (x1::x0::E) ((W.setCells l 0 x1.cells).setCells l 2 x0.cells):=by
 have hlm:=own.bm.lines;obtain⟨ys,y1,y2,y3⟩:=Ci x1.cells 0 W _ (hlm.size hn);have hy:=y3 [] x0.cells ((x1::E).flatMap LAt.cells) (by simp) rfl rfl;obtain⟨zs,z1,z2,z3⟩:=Ci x0.cells 2 _ _ y1;have hz:=z3 x1.cells x1.cells (E.flatMap LAt.cells) (by rw[hy];simp) rfl rfl;have hzz:zs=(x1::x0::E).flatMap LAt.cells:=by rw[hz];simp
 rw[hzz]at z1;have hgr:=A1 y2 z2;have hmem:A8 c W (⟨.slice (some ⟨l,0,none⟩) nl yc,115,2,(x0::x1::E).length,(x0::x1::E).flatMap LAt.cells⟩::((x0::x1::E).map LAt.row++Hn (.slice (some ⟨g,0,none⟩) n cap) D ⟨yk,yn,.slice (some ⟨l,0,none⟩) nl yc,x0::x1::E⟩ T [])):=hlm;have ht:=A8.turn (r':=⟨.slice (some ⟨l,0,none⟩) nl yc,115,2,(x0::x1::E).length,(x1::x0::E).flatMap LAt.cells⟩) hmem rfl (by show World.ownsRow _ _ _ _ _ _ _;rw[hn];exact z1) hgr
 have hlm':LM c ((W.setCells l 0 x1.cells).setCells l 2 x0.cells) (.slice (some ⟨l,0,none⟩) nl yc) (x1::x0::E) (Hn (.slice (some ⟨g,0,none⟩) n cap) D ⟨yk,yn,.slice (some ⟨l,0,none⟩) nl yc,x0::x1::E⟩ T []) :=
  A8.perm ht (List.Perm.cons _ (List.Perm.append_right _ (List.Perm.map _ (List.Perm.swap _ _ _))))
 have hback:=(BM.back (r:=⟨yk,yn,.slice (some ⟨l,0,none⟩) nl yc,x0::x1::E⟩) hlm').own;have hlc:=(own.lines _ (show (⟨yk,yn,.slice (some ⟨l,0,none⟩) nl yc,x0::x1::E⟩:BAt)∈D++⟨yk,yn,.slice (some ⟨l,0,none⟩) nl yc,x0::x1::E⟩::T by simp)).row.lt l rfl;have hms:∀ z∈x1::x0::E,z∈x0::x1::E:=fun z hz=>by
  simp only[List.mem_cons]at hz ⊢;rcases hz with hz | hz | hz
  ·exact .inr (.inl hz)
  ·exact .inl hz
  ·exact .inr (.inr hz)
 have hfr:∀ q,Aj q (.slice (some ⟨l,0,none⟩) nl yc) (x0::x1::E)→l≠q∧Aj q (.slice (some ⟨l,0,none⟩) nl yc) (x1::x0::E):=fun q hq=>⟨Hy hq.1 (by simp),hq.same (by simp) fun z hz=>⟨z,hms z hz,rfl,rfl⟩⟩
 exact Im.lines (l:=l) h hback hgr hlc.1 (hfr X (h.mine.1.2.1 X (by simp))).1 (hfr Y (h.mine.1.2.1 Y (by simp))).1 ⟨fun q hq=>(hfr q (h.mine.1.2.1 q hq)).2,fun q hq=>(hfr q (h.mine.1.2.2 q hq)).2⟩ ⟨h.mine.2.1,by have:=h.mine.2.2.1;simp only[List.length_cons]at this ⊢;exact this,fun z hz=>h.mine.2.2.2 z (hms z hz)⟩
theorem Im.lay{cap:Nat}{bv':Value}(h:Im B p c X Y w1 D T y g n cap kk bk bn bv ls W)(hy:W'.heap[Y]?=some (.cells #[.string bk',.string bn',bv'] 46 (0,0)))(hg:W.grownBy W' (some Y))(hm:Eg c [g,X,Y] W' bv' ls'∧E5 bn' ls'):Im B p c X Y w1 D T y g n cap kk bk' bn' bv' ls' W':=by
 have hX:X<W.heap.size:=(Array.getElem?_eq_some_iff.1 h.xb).1;refine⟨Bl.rd h.rd (Bl.of_grown (S:=[Y]) hg (fun q hq=>by cases hq;simp)) (fun i hi=>by rw[List.mem_singleton.1 hi];have:=h.cY;have:=h.plt;omega),⟨hg.os.trans h.gr.os,hg.tape.trans h.gr.tape,hg.output.trans h.gr.output,Nat.le_trans h.gr.size hg.size,fun i hi hne=>?_⟩,h.plt,h.cw,?_,hy,h.cX,h.cY,h.XY,h.gX,h.gY,World.ownsRow.kept h.row hg (.inr (fun e=>by cases e;exact h.gY rfl)),h.len,h.few,fun x hx=>⟨(h.oth x hx).1.grown hg (.inr (by simp)),(h.oth x hx).2⟩,hm⟩
 ·have hc:=h.cY;have hw:=h.cw;have:=h.gr.size;rw[hg.block i (by omega) (by intro e;cases e;omega)];exact h.gr.block i hi hne
 ·rw[hg.block X hX (by intro e;cases e;exact h.XY rfl)];exact h.xb
theorem Im.app{l:Nat}{cap:Nat}(h:Im B p c X Y w1 D T y g n cap kk bk bn y.v y.ls W)(own:As c W (.slice (some ⟨g,0,none⟩) n cap) (D++y::T))(hl:y.v.ownBlock=some l)(hln:0<y.ls.length)(hg:W.grownBy W' (some l))(row':W'.ownsRow c 115 2 v' ls'.length (ls'.flatMap LAt.cells))(hv:v'.ownBlock=some l∨v'.ownBlock=some W.heap.size)(hm:∀ x∈ls',x∈y.ls)(hl9:ls'.length≤1048576):
  Im B p c X Y w1 D T y g n cap kk bk bn v' ls' (W'.setCell ⟨Y,2,none⟩ v'):=by
 have hXl:X<W.heap.size:=(Array.getElem?_eq_some_iff.1 h.xb).1;have hYl:Y<W.heap.size:=(Array.getElem?_eq_some_iff.1 h.yb).1;have hcw:=h.cw;have hws:=h.gr.size;have hplt:=h.plt;have hcX:=h.cX;have hcY:=h.cY;have hmem:A8 c W (⟨y.v,115,2,y.ls.length,y.ls.flatMap LAt.cells⟩::(y.ls.map LAt.row++Hn (.slice (some ⟨g,0,none⟩) n cap) D y T [])):=own.bm.lines;have hlt:=(A8.lt hmem (List.mem_cons_self ..) hl);have hG:=A8.grow (r':=⟨v',115,2,ls'.length,ls'.flatMap LAt.cells⟩) hmem row' (by rw[hl];exact hg) (by rw[hl];exact hv);have hfarl:∀ q,Cr q y.v y.ls.length→l≠q:=fun q hq=>by
  rcases(own.lines y (by simp)).row.2 with ⟨e,h0⟩ | ⟨g',cp,cur,e,_⟩
  ·omega
  ·rw[e]at hl hq;cases hl
   exact Hy hq hln
 have lX:l≠X:=hfarl X (h.mine.1.2.1 X (by simp)).1;have lY:l≠Y:=hfarl Y (h.mine.1.2.1 Y (by simp)).1;have lg:l≠g:=hfarl g (h.mine.1.2.1 g (by simp)).1;have hbm:As c W' (.slice (some ⟨g,0,none⟩) n cap) (D++{ y with v:=y.v,ls:=[] }::T)∨True:=.inr trivial;have gS:=Hc W' Y 2 v';have hgz:=hg.size;have hrest:∀ r∈Hn (.slice (some ⟨g,0,none⟩) n cap) D y T [],r.isAt c W':=fun r hr=>hG.1 r (by simp[hr])
 have hwords:∀ x∈y.ls,W'.ownsRow c 9 1 x.v x.ws.length (strs x.ws):=fun x hx=>hG.1 x.row (List.mem_cons_of_mem _ (List.mem_append_left _ (List.mem_map_of_mem hx)))
 have hothers:∀ x∈D++T,Ah W' x.v x.ls:=by
  intro x hx;have hsub:∀ r∈Dr x.v x.ls,r.isAt c W':=fun r hr=>hrest r (by
   unfold Hn;simp only[List.mem_append,List.mem_cons,List.mem_flatMap]at hx ⊢;rcases hx with hx | hx
   ·exact .inl (.inr ⟨x,hx,hr⟩)
   ·exact .inr (.inl ⟨x,hx,hr⟩))
  exact⟨Bo (hsub _ (List.mem_cons_self ..)),fun z hz=>Bo (hsub z.row (List.mem_cons_of_mem _ (List.mem_map_of_mem hz)))⟩
 have hrow':W'.ownsRow c 46 3 (.slice (some ⟨g,0,none⟩) n cap) n ((D++y::T).flatMap BAt.cells):=by
  have:=hrest ⟨.slice (some ⟨g,0,none⟩) n cap,46,3,(D++y::T).length,(D++y::T).flatMap BAt.cells⟩ (by unfold Hn;simp);rw[h.len]at this;exact this
 have yb':W'.heap[Y]?=some (.cells #[.string bk,.string bn,y.v] 46 (0,0)):=(hg.block Y hYl (by intro e;cases e;exact lY rfl)).trans h.yb;have hmine:Ah W' v' ls':=⟨Bo row',fun z hz=>Bo (hwords z (hm z hz))⟩;have hfv:∀ q,q<W.heap.size→Aj q y.v y.ls→Aj q v' ls':=fun q hq hf=>by
  refine⟨Cr.of_own row' ?_,fun z hz=>hf.2 z (hm z hz)⟩;intro e;rcases hv with hv | hv
  ·rw[hv]at e;exact hfarl q hf.1 (Option.some.inj e)
  ·rw[hv]at e;have:=Option.some.inj e;omega
 have hgl:=(h.row.lt g rfl).2;have hfree:Eg c [g,X,Y] W' v' ls':=⟨hmine,fun q hq=>hfv q (by simp only[List.mem_cons,List.not_mem_nil,or_false]at hq;rcases hq with rfl | rfl | rfl <;> assumption) (h.mine.1.2.1 q hq),fun q hq=>hfv q (by omega) (h.mine.1.2.2 q hq)⟩
 refine⟨?_,⟨gS.os.trans (hg.os.trans h.gr.os),gS.tape.trans (hg.tape.trans h.gr.tape),gS.output.trans (hg.output.trans h.gr.output),by have:=gS.size;omega,fun i hi hne=>?_⟩,h.plt,h.cw,?_,?_,h.cX,h.cY,h.XY,h.gX,h.gY,World.ownsRow.kept hrow' gS (.inr (fun e=>by cases e;exact h.gY rfl)),h.len,h.few,fun x hx=>⟨Eg.grown ⟨hothers x hx,(h.oth x hx).1.2⟩ gS (.inr (by simp)),(h.oth x hx).2⟩,hfree.grown gS (.inr (by simp)),h.mine.2.1,hl9,fun z hz=>h.mine.2.2.2 z (hm z hz)⟩
 ·have k1:=Bl.rd h.rd (Bl.of_grown (S:=[l]) hg (fun q hq=>by cases hq;simp)) (fun i hi=>by rw[List.mem_singleton.1 hi];omega);exact Bl.rd k1 (Bl.of_grown (S:=[Y]) gS (fun q hq=>by cases hq;simp)) (fun i hi=>by rw[List.mem_singleton.1 hi];omega)
 ·rw[gS.block i (by omega) (by intro e;cases e;omega),hg.block i (by omega) (by intro e;cases e;omega)];exact h.gr.block i hi hne
 ·rw[gS.block X (by omega) (by intro e;cases e;exact h.XY rfl),hg.block X hXl (by intro e;cases e;exact lX rfl)];exact h.xb
 ·rw[heap_setCell_same W' Y 2 _ _ _ yb'];rfl
def Aep:List ByteArray:=[⟨#[]⟩,⟨#[105,109,97,103,101]⟩,⟨#[122,111,110,101]⟩]
def K6(p Y l nI:Nat)(lv:Value)(i:Nat)(x:Value)(W:World):Prop:=match i with
 | 0=>x=.pointer (some ⟨Y,2,none⟩)
 | 1=>x=lv
 | 2=>x=.int .i64 (nI:Int)
 | 3=>∃ t,x=.slice (some ⟨t,0,none⟩) 3 3∧Kr p W t Aep
 | 4=>x=.pointer (some ⟨p,0,none⟩)
 | 5=>∃ y:Nat,y<3∧x=.int .i64 (y:Int)
 | 6=>∃ t y:Nat,y<3∧x=.pointer (some ⟨t,y,none⟩)∧Kr p W t Aep
 | 7=>∃ u,x=.string u
 | 8=>x=.pointer (some ⟨l,nI * 2,none⟩)
 | 9=>x=.pointer (some ⟨l,nI * 2,none⟩)
 | _=>True
theorem K6.keep{l:Nat}(k:Cv p W W'):∀(i:Nat) (x:Value),K6 p Y l nI lv i x W→K6 p Y l nI lv i x W':=by
 intro i x h;unfold K6 at *;split <;> simp only at h
 ·exact h
 ·exact h
 ·exact h
 ·obtain⟨t,e,ht⟩:=h;exact⟨t,e,ht.keep k⟩
 ·exact h
 ·exact h
 ·obtain⟨t,y,hy,e,ht⟩:=h;exact⟨t,y,hy,e,ht.keep k⟩
 ·exact h
 ·exact h
 ·exact h
 ·trivial
def Xr(J:Nat→World→Prop)(m kk d:Nat)(L:Nat→Bool)(W:World):Prop:=∃ k',k'≤kk+(if L m=true then d else 0)∧J k' W
theorem Xr.keep{L:Nat→Bool}(h:Xr J m kk d L W)(hi:i≠m)(hJ:∀ k,J k W→J k W'):Xr J m kk d (Ef L i) W':=by
 obtain⟨k',hk,h⟩:=h;refine⟨k',?_,hJ _ h⟩;simpa [Ef,Ne.symm hi] using hk
theorem Xr.get{L:Nat→Bool}(h:Xr J m kk d L W):∃ k',k'≤kk+d∧J k' W:=by
 obtain⟨k',hk,h⟩:=h;exact⟨k',by split at hk <;> omega,h⟩
def Aim(p Y l nI r nw wc:Nat)(lv:Value)(i:Nat)(x:Value):Prop:=match i with
 | 0=>x=.pointer (some ⟨Y,2,none⟩)
 | 1=>x=lv
 | 2=>x=.int .i64 (nI:Int)
 | 3=>x=.pointer (some ⟨l,nI * 2,none⟩)
 | 4=>x=.pointer (some ⟨l,nI * 2+1,none⟩)
 | 5=>x=.slice (some ⟨r,0,none⟩) nw wc
 | 6=>x=.pointer (some ⟨p,0,none⟩)
 | 7=>∃ t:ByteArray,t.size≤201∧x=.string t
 | 8=>x=.pointer (some ⟨r,0,none⟩)
 | _=>True
def Xs(Y l nI nl yc:Nat)(xk:ByteArray)(xv:Value)(J:Value→World→Prop)(i:Nat)(x:Value)(W:World):Prop:=match i with
 | 0=>x=.pointer (some ⟨Y,2,none⟩)
 | 1=>x=.slice (some ⟨l,0,none⟩) nl yc
 | 2=>x=.pointer (some ⟨Y,2,none⟩)
 | 3=>x=.slice (some ⟨l,0,none⟩) nl yc
 | 4=>x=.int .i64 (nI:Int)
 | 5=>x=.pointer (some ⟨l,nI * 2,none⟩)
 | 6=>x=.agg #[.string xk,xv]
 | 7=>∃ t,x=.slice (some ⟨t,0,none⟩) 1 1∧l<t∧W.heap[t]?=some (.cells #[.string xk,xv] 115 (0,0))
 | 8=>∃ a c,x=.slice (some ⟨a,0,none⟩) (nl+1) c∧J x W
 | 9=>x=.pointer (some ⟨Y,2,none⟩)
 | _=>True
theorem Xs.keep{l:Nat}{J:Value→World→Prop}(k:Cv l W W'):∀(i:Nat) (x:Value),i≠8→Xs Y l nI nl yc xk xv J i x W→Xs Y l nI nl yc xk xv J i x W':=by
 intro i x h8 h;unfold Xs at *;split <;> simp only at h
 ·exact h
 ·exact h
 ·exact h
 ·exact h
 ·exact h
 ·exact h
 ·exact h
 ·obtain⟨t,e,ht,hh⟩:=h;exact⟨t,e,ht,k t _ ht hh⟩
 ·exact absurd rfl h8
 ·exact h
 ·trivial
def Ai5(Y:Nat)(yk yn:ByteArray)(lv:Value)(J:World→Prop)(L:Nat→Bool)(W:World):Prop:=W.heap[Y]?=some (.cells #[.string yk,.string yn,lv] 46 (0,0))∧(L 8=false→J W)∧(L 8=true→L 7=true)∧(L 7=true→L 6=true)
def Ag9(B p c X Y:Nat)(w1:World)(D:List BAt)(y:BAt)(nx kk:Nat)(yk yn:ByteArray)(bv:Value)(yl:List LAt)(i:Value)(W:World):Prop:=∃(j:Nat) (T:List BAt) (g cap kk':Nat),i=.int .i64 (j:Int)∧nx+j≤61∧kk'≤kk+j∧Im B p c X Y w1 D T y g (nx+j) cap kk' yk yn bv yl W
def Ain(p X g n cap:Nat)(i:Nat)(x:Value):Prop:=match i with
 | 0=>x=.pointer (some ⟨X,0,none⟩)
 | 1=>x=.slice (some ⟨g,0,none⟩) n cap
 | 2=>x=.int .i64 (n:Int)
 | 3=>x=.pointer (some ⟨p,0,none⟩)
 | 4=>∃ y:Nat,y<2∧x=.int .i64 (y:Int)
 | 5=>∃ y:Nat,y<2∧x=.int .i64 (60+(y:Int))
 | 6=>∃ b,x=.bool b∧(b=true→n≤60)
 | _=>True
theorem Aeq(w:World)(c d:UInt8):(convert 22 9 (.slice (some ⟨w.heap.size,0,none⟩) 2 2)).run Tryz.prog (w.alloc (.cells #[.int .u8 (c.toNat:Int),.int .u8 (d.toNat:Int)] 5))=.ok (.string ⟨#[c,d]⟩) (w.alloc (.cells #[.int .u8 (c.toNat:Int),.int .u8 (d.toNat:Int)] 5)) :=
 Pn _ _ w.heap.size [c,d] 2 (World.ownsRow_lit w #[.int .u8 (c.toNat:Int),.int .u8 (d.toNat:Int)] 2 (Nat.le_refl _) (by decide) rfl)
theorem Lz{e:TypeId}{size:Nat}{a:Option Addr}(h:w.ownsRow base e size (.slice a n c) m xs)(h0:m≠0):∃ l,a=some ⟨l,0,none⟩:=by
 obtain⟨a',c',e',h'⟩:=Ai h;cases e'
 rcases h' with h' | h'
 ·exact absurd h' h0
 ·exact h'
theorem Acm(w:World)(o:Obj)(t:ByteArray):((w.alloc o).alloc (.cells #[.string t] 9)).ownsRow w.heap.size 9 1 (.slice (some ⟨w.heap.size+1,0,none⟩) 1 1) 1 (strs [t.data.toList]):=by
 have h:((w.alloc o).alloc (.cells #[.string t] 9)).ownsRow (w.alloc o).heap.size 9 1 (.slice (some ⟨(w.alloc o).heap.size,0,none⟩) 1 1) 1 [.string t]:=World.ownsRow_lit (w.alloc o) #[.string t] 1 (Nat.le_refl _) (by decide) rfl;rw[World.size_alloc]at h;exact Ec h (by omega)
theorem Xt(B:Nat)(w:World):A3 B w (.slice none 0 0) []:=A8.own1 (World.ownsRow_nil _ _ _ _)
theorem Zy(j:Nat)(h:j≤26):((UInt8.ofNat (97+j)).toNat:Int)=97+(j:Int):=by
 have:(UInt8.ofNat (97+j)).toNat=97+j:=by
  rw[UInt8.toNat_ofNat'];omega
 rw[this];omega
def Aha(Z Y:Nat)(W9:World)(yn:ByteArray)(i:Value)(W:World):Prop:=∃(j:Nat) (a:Option Addr) (cc:Nat) (ls:List LAt),i=.int .i64 (j:Int)∧j≤11∧ls.length=j∧W9.grownBy W (some Y)∧W.heap[Y]?=some (.cells #[.string ⟨#[98,101,114,116,104]⟩,.string yn,.slice a j cc] 46 (0,0))∧A3 Z W (.slice a j cc) ls∧∀ x∈ls,x.ws.length≤1∧∀ y∈x.ws,y.length≤2
theorem A3.farAll(h:A3 Z W v ls)(hq:q<Z):Aj q v ls:=⟨Cr.above h.row hq,fun y hy=>Cr.above (h.words y hy) hq⟩
variable {Q:Exit → Act → World → Prop}{a:Act}
def T9: Oper := { dst := some 95, op := Op.fieldAddr 46 (Operand.tmp 7) 2, type := 0, pos := "l8_draw.go:204", after := #[], guard := none }
def Ua: Oper := { dst := some 96, op := Op.load 44 (Operand.tmp 95), type := 44, pos := "l8_draw.go:204", after := #[{ on := 0, ground := Ground.data }], guard := none }
def Ub: Oper := { dst := some 97, op := Op.move (Operand.tmp 8), type := 3, pos := "l8_draw.go:204", after := #[], guard := none }
def Zz: Oper := { dst := some 98, op := Op.buildSlice 52 3 #[(0, Operand.const (Value.string { data := #[] })), (1, Operand.const (Value.string { data := #[105, 109, 97, 103, 101] })), (2, Operand.const (Value.string { data := #[122, 111, 110, 101] }))], type := 52, pos := "l8_draw.go:204", after := #[], guard := none }
def Uc: Oper := { dst := some 99, op := Op.move (Operand.tmp 0), type := 65, pos := "l8_draw.go:204", after := #[], guard := none }
def Ud: Oper := { dst := some 100, op := Op.call { callee := Callee.value (Operand.func 44), args := #[Operand.tmp 99, Operand.const (Value.int IntKind.i64 3)], argTypes := #[65, 3] }, type := 3, pos := "l8_draw.go:204", after := #[{ on := 4, ground := Ground.data }], guard := none }
def Ue: Oper := { dst := some 101, op := Op.indexAddr 52 (Operand.tmp 98) (Operand.tmp 100), type := 0, pos := "l8_draw.go:204", after := #[{ on := 3, ground := Ground.data }, { on := 5, ground := Ground.data }], guard := none }
def Uf: Oper := { dst := some 102, op := Op.load 9 (Operand.tmp 101), type := 9, pos := "l8_draw.go:204", after := #[{ on := 6, ground := Ground.data }], guard := none }
def Ug: Oper := { dst := some 103, op := Op.indexAddr 44 (Operand.tmp 96) (Operand.tmp 97), type := 0, pos := "l8_draw.go:204", after := #[{ on := 1, ground := Ground.data }, { on := 2, ground := Ground.data }, { on := 0, ground := Ground.phase }, { on := 1, ground := Ground.phase }, { on := 2, ground := Ground.phase }, { on := 3, ground := Ground.phase }, { on := 4, ground := Ground.phase }, { on := 5, ground := Ground.phase }, { on := 6, ground := Ground.phase }, { on := 7, ground := Ground.phase }], guard := none }
def Uh: Oper := { dst := some 104, op := Op.fieldAddr 115 (Operand.tmp 103) 0, type := 0, pos := "l8_draw.go:204", after := #[{ on := 8, ground := Ground.data }, { on := 0, ground := Ground.phase }, { on := 1, ground := Ground.phase }, { on := 2, ground := Ground.phase }, { on := 3, ground := Ground.phase }, { on := 4, ground := Ground.phase }, { on := 5, ground := Ground.phase }, { on := 6, ground := Ground.phase }, { on := 7, ground := Ground.phase }], guard := none }
def Pb: Oper := { dst := none, op := Op.store 9 (Operand.tmp 104) (Operand.tmp 102), type := 0, pos := "l8_draw.go:204", after := #[{ on := 9, ground := Ground.data }, { on := 7, ground := Ground.data }, { on := 5, ground := Ground.chain }, { on := 0, ground := Ground.phase }, { on := 1, ground := Ground.phase }, { on := 2, ground := Ground.phase }, { on := 3, ground := Ground.phase }, { on := 4, ground := Ground.phase }, { on := 5, ground := Ground.phase }, { on := 6, ground := Ground.phase }, { on := 7, ground := Ground.phase }], guard := none }
def Aio:List Oper:=[T9,Ua,Ub,Zz,Uc,Ud,Ue,Uf,Ug,Uh,Pb]
def Ui: Oper := { dst := some 121, op := Op.fieldAddr 46 (Operand.tmp 7) 2, type := 0, pos := "l8_draw.go:208", after := #[], guard := none }
def Uj: Oper := { dst := some 122, op := Op.load 44 (Operand.tmp 121), type := 44, pos := "l8_draw.go:208", after := #[{ on := 0, ground := Ground.data }], guard := none }
def Uk: Oper := { dst := some 123, op := Op.move (Operand.tmp 8), type := 3, pos := "l8_draw.go:208", after := #[], guard := none }
def Ul: Oper := { dst := some 124, op := Op.indexAddr 44 (Operand.tmp 122) (Operand.tmp 123), type := 0, pos := "l8_draw.go:208", after := #[{ on := 1, ground := Ground.data }, { on := 2, ground := Ground.data }], guard := none }
def Um: Oper := { dst := some 125, op := Op.fieldAddr 115 (Operand.tmp 124) 1, type := 0, pos := "l8_draw.go:208", after := #[{ on := 3, ground := Ground.data }], guard := none }
def Un: Oper := { dst := some 126, op := Op.load 52 (Operand.tmp 125), type := 52, pos := "l8_draw.go:208", after := #[{ on := 4, ground := Ground.data }], guard := none }
def Uo: Oper := { dst := some 127, op := Op.move (Operand.tmp 0), type := 65, pos := "l8_draw.go:208", after := #[], guard := none }
def Up: Oper := { dst := some 128, op := Op.call { callee := Callee.value (Operand.func 164), args := #[Operand.tmp 127], argTypes := #[65] }, type := 9, pos := "l8_draw.go:208", after := #[{ on := 6, ground := Ground.data }], guard := none }
def Uq: Oper := { dst := some 129, op := Op.indexAddr 52 (Operand.tmp 126) (Operand.const (Value.int IntKind.i64 0)), type := 0, pos := "l8_draw.go:208", after := #[{ on := 5, ground := Ground.data }, { on := 0, ground := Ground.phase }, { on := 1, ground := Ground.phase }, { on := 2, ground := Ground.phase }, { on := 3, ground := Ground.phase }, { on := 4, ground := Ground.phase }, { on := 5, ground := Ground.phase }, { on := 6, ground := Ground.phase }, { on := 7, ground := Ground.phase }], guard := none }
def Ur: Oper := { dst := none, op := Op.store 9 (Operand.tmp 129) (Operand.tmp 128), type := 0, pos := "l8_draw.go:208", after := #[{ on := 8, ground := Ground.data }, { on := 7, ground := Ground.data }, { on := 7, ground := Ground.chain }, { on := 0, ground := Ground.phase }, { on := 1, ground := Ground.phase }, { on := 2, ground := Ground.phase }, { on := 3, ground := Ground.phase }, { on := 4, ground := Ground.phase }, { on := 5, ground := Ground.phase }, { on := 6, ground := Ground.phase }, { on := 7, ground := Ground.phase }], guard := none }
def Aip:List Oper:=[Ui,Uj,Uk,Ul,Um,Un,Uo,Up,Uq,Ur]
def Us: Oper := { dst := some 136, op := Op.fieldAddr 46 (Operand.tmp 7) 2, type := 0, pos := "l8_draw.go:212", after := #[], guard := none }
def Ut: Oper := { dst := some 137, op := Op.load 44 (Operand.tmp 136), type := 44, pos := "l8_draw.go:212", after := #[{ on := 0, ground := Ground.data }], guard := none }
def Uu: Oper := { dst := some 138, op := Op.fieldAddr 46 (Operand.tmp 7) 2, type := 0, pos := "l8_draw.go:212", after := #[], guard := none }
def Uv: Oper := { dst := some 139, op := Op.load 44 (Operand.tmp 138), type := 44, pos := "l8_draw.go:212", after := #[{ on := 2, ground := Ground.data }], guard := none }
def Uw: Oper := { dst := some 140, op := Op.move (Operand.tmp 8), type := 3, pos := "l8_draw.go:212", after := #[], guard := none }
def Ux: Oper := { dst := some 141, op := Op.indexAddr 44 (Operand.tmp 139) (Operand.tmp 140), type := 0, pos := "l8_draw.go:212", after := #[{ on := 3, ground := Ground.data }, { on := 4, ground := Ground.data }], guard := none }
def Uy: Oper := { dst := some 142, op := Op.load 115 (Operand.tmp 141), type := 115, pos := "l8_draw.go:212", after := #[{ on := 5, ground := Ground.data }], guard := none }
def Uz: Oper := { dst := some 143, op := Op.buildSlice 44 1 #[(0, Operand.tmp 142)], type := 44, pos := "l8_draw.go:212", after := #[{ on := 6, ground := Ground.data }], guard := none }
def Aer: Oper := { dst := some 144, op := Op.call { callee := Callee.builtin Builtin.append, args := #[Operand.tmp 137, Operand.tmp 143], argTypes := #[44, 44] }, type := 44, pos := "l8_draw.go:212", after := #[{ on := 1, ground := Ground.data }, { on := 7, ground := Ground.data }], guard := none }
def U0: Oper := { dst := some 145, op := Op.fieldAddr 46 (Operand.tmp 7) 2, type := 0, pos := "l8_draw.go:212", after := #[{ on := 0, ground := Ground.phase }, { on := 1, ground := Ground.phase }, { on := 2, ground := Ground.phase }, { on := 3, ground := Ground.phase }, { on := 4, ground := Ground.phase }, { on := 5, ground := Ground.phase }, { on := 6, ground := Ground.phase }, { on := 7, ground := Ground.phase }, { on := 8, ground := Ground.phase }], guard := none }
def Pc: Oper := { dst := none, op := Op.store 44 (Operand.tmp 145) (Operand.tmp 144), type := 0, pos := "l8_draw.go:212", after := #[{ on := 9, ground := Ground.data }, { on := 8, ground := Ground.data }, { on := 8, ground := Ground.chain }, { on := 0, ground := Ground.phase }, { on := 1, ground := Ground.phase }, { on := 2, ground := Ground.phase }, { on := 3, ground := Ground.phase }, { on := 4, ground := Ground.phase }, { on := 5, ground := Ground.phase }, { on := 6, ground := Ground.phase }, { on := 7, ground := Ground.phase }, { on := 8, ground := Ground.phase }], guard := none }
def Aiq:List Oper:=[Us,Ut,Uu,Uv,Uw,Ux,Uy,Uz,Aer,U0,Pc]
def U1: Oper := { dst := some 156, op := Op.fieldAddr 46 (Operand.tmp 7) 2, type := 0, pos := "l8_draw.go:217", after := #[], guard := none }
def U4: Oper := { dst := some 157, op := Op.load 44 (Operand.tmp 156), type := 44, pos := "l8_draw.go:217", after := #[{ on := 0, ground := Ground.data }], guard := none }
def U5: Oper := { dst := some 158, op := Op.fieldAddr 46 (Operand.tmp 7) 2, type := 0, pos := "l8_draw.go:217", after := #[], guard := none }
def U6: Oper := { dst := some 159, op := Op.load 44 (Operand.tmp 158), type := 44, pos := "l8_draw.go:217", after := #[{ on := 2, ground := Ground.data }], guard := none }
def U7: Oper := { dst := some 160, op := Op.indexAddr 44 (Operand.tmp 159) (Operand.const (Value.int IntKind.i64 1)), type := 0, pos := "l8_draw.go:217", after := #[{ on := 3, ground := Ground.data }], guard := none }
def U8: Oper := { dst := some 161, op := Op.load 115 (Operand.tmp 160), type := 115, pos := "l8_draw.go:217", after := #[{ on := 4, ground := Ground.data }], guard := none }
def U9: Oper := { dst := some 162, op := Op.indexAddr 44 (Operand.tmp 157) (Operand.const (Value.int IntKind.i64 0)), type := 0, pos := "l8_draw.go:217", after := #[{ on := 1, ground := Ground.data }, { on := 0, ground := Ground.phase }, { on := 1, ground := Ground.phase }, { on := 2, ground := Ground.phase }, { on := 3, ground := Ground.phase }, { on := 4, ground := Ground.phase }, { on := 5, ground := Ground.phase }], guard := none }
def Va: Oper := { dst := none, op := Op.store 115 (Operand.tmp 162) (Operand.tmp 161), type := 0, pos := "l8_draw.go:217", after := #[{ on := 6, ground := Ground.data }, { on := 5, ground := Ground.data }, { on := 0, ground := Ground.phase }, { on := 1, ground := Ground.phase }, { on := 2, ground := Ground.phase }, { on := 3, ground := Ground.phase }, { on := 4, ground := Ground.phase }, { on := 5, ground := Ground.phase }], guard := none }
def Air:List Oper:=[U1,U4,U5,U6,U7,U8,U9,Va]
def Aa5: Oper := { dst := some 39, op := Op.fieldAddr 25 (Operand.tmp 5) 0, type := 0, pos := "l8_draw.go:227", after := #[], guard := none }
def Aa6: Oper := { dst := some 40, op := Op.load 23 (Operand.tmp 39), type := 23, pos := "l8_draw.go:227", after := #[{ on := 0, ground := Ground.data }], guard := none }
def Aes: Oper := { dst := some 41, op := Op.call { callee := Callee.builtin Builtin.len, args := #[Operand.tmp 40], argTypes := #[23] }, type := 3, pos := "l8_draw.go:227", after := #[{ on := 1, ground := Ground.data }], guard := none }
def Aa7: Oper := { dst := some 42, op := Op.move (Operand.tmp 0), type := 65, pos := "l8_draw.go:227", after := #[], guard := none }
def Aa8: Oper := { dst := some 43, op := Op.call { callee := Callee.value (Operand.func 44), args := #[Operand.tmp 42, Operand.const (Value.int IntKind.i64 2)], argTypes := #[65, 3] }, type := 3, pos := "l8_draw.go:227", after := #[{ on := 3, ground := Ground.data }], guard := none }
def Aet: Oper := { dst := some 44, op := Op.binOp BinOp.add 3 (Operand.const (Value.int IntKind.i64 60)) (Operand.tmp 43) 3, type := 3, pos := "l8_draw.go:227", after := #[{ on := 4, ground := Ground.data }], guard := none }
def Aeu: Oper := { dst := some 45, op := Op.binOp BinOp.lss 3 (Operand.tmp 41) (Operand.tmp 44) 3, type := 4, pos := "l8_draw.go:227", after := #[{ on := 2, ground := Ground.data }, { on := 5, ground := Ground.data }], guard := none }
def Ai6:List Oper:=[Aa5,Aa6,Aes,Aa7,Aa8,Aet,Aeu]
theorem Xr.get0{L:Nat→Bool}(h:Xr J m kk d L W)(h0:L m=false):∃ k',k'≤kk∧J k' W:=by
 obtain⟨k',hk,h⟩:=h;exact⟨k',by simpa [h0] using hk,h⟩
theorem Xr.put{k' k2:Nat}{L:Nat→Bool}(hk:k'≤kk)(h2:k2≤k'+d)(h:J k2 W):Xr J m kk d (Ef L m) W:=⟨k2,by simp[Ef];omega,h⟩
def St(B p c X Y:Nat)(w1:World)(D T:List BAt)(y:BAt)(g n cap:Nat)(bk bn:ByteArray)(kk:Nat)(W:World):Prop:=Im B p c X Y w1 D T y g n cap kk bk bn y.v y.ls W∧As c W (.slice (some ⟨g,0,none⟩) n cap) (D++y::T)
theorem St.below{cap:Nat}(h:St B p c X Y w1 D T y g n cap bk bn kk W)(hb:Below W.heap.size W W'):St B p c X Y w1 D T y g n cap bk bn kk W':=⟨h.1.below hb,h.2.below hb⟩
theorem St.grown{cap:Nat}(h:St B p c X Y w1 D T y g n cap bk bn kk W)(hg:W.grownBy W' (some p))(hr:Rd B W' p kk'):St B p c X Y w1 D T y g n cap bk bn kk' W':=⟨h.1.grown hg hr,A8.other h.2 hg h.1.plt⟩
theorem Aa9{cap:Nat}(h:St B p c X Y w1 D T y g n cap bk bn kk W):W.cell? ⟨Y,2,none⟩=some y.v:=by
 have:=Ab h.1.yb 2;simpa using this
theorem Ago{l:Nat}{cap:Nat}(h:St B p c X Y w1 D T ⟨yk,yn,.slice (some ⟨l,0,none⟩) nl yc,ls⟩ g n cap bk bn kk W)(hn:ls.length=nl)(j:Nat):W.frozen? ⟨l,j,none⟩=false:=(h.2.bm.lines.size hn).frozenAt j
theorem Vb{l:Nat}{A:List LAt}{x:LAt}{cap:Nat}(hJ:St B p c X Y w1 D T ⟨yk,yn,.slice (some ⟨l,0,none⟩) nl yc,A++x::E⟩ g n cap bk bn kk W)(hk:kk≤900000)(hA:A.length=nI)(hn:(A++x::E).length=nl)(h0:a.eval (.tmp 0)=.pointer (some ⟨p,0,none⟩))(h7:a.eval (.tmp 7)=.pointer (some ⟨Y,0,none⟩))(h8:a.eval (.tmp 8)=.int .i64 (nI:Int))(hsz:a.tmps.size=199)
  (hQ:∀ v u k' W' a',a'=Aq a [95,96,97,98,99,100,101,102,103,104] v→k'≤kk+1→Im B p c X Y w1 D T ⟨yk,yn,.slice (some ⟨l,0,none⟩) nl yc,A++x::E⟩ g n cap k' bk bn (.slice (some ⟨l,0,none⟩) nl yc) (A++{ x with key:=u }::E) W'→Q .normal a' W'):(Code.region 20 Aio.toArray true).wp Tryz.prog Q a W:=by
 have hnd:([95,96,97,98,99,100,101,102,103,104]:List Nat).Nodup:=by decide
 have hIn:nI<nl:=by rw[← hn,← hA];simp
 have i3:(0:Int)≤(nI:Int):=by omega
 have i4:(nI:Int)<(nl:Int):=by omega
 refine Co [95,96,97,98,99,100,101,102,103,104] (K6 p Y l nI (.slice (some ⟨l,0,none⟩) nl yc)) (Xr (St B p c X Y w1 D T ⟨yk,yn,.slice (some ⟨l,0,none⟩) nl yc,A++x::E⟩ g n cap bk bn) 5 kk 1) 10 11 [0,1,2,3,4,5,6,7,8,9,10] (by kernel_rfl) rfl (by decide) (by kernel_rfl) ?h1 ⟨_,Nat.le_refl _,hJ.below (Below.refl _ _).drew⟩ ?hall;case h1 =>
  intro i x W hi;unfold K6;split <;> first | omega | trivial
 refine Am.consQ (o:=T9) [] (by kernel_rfl) (by decide) (by kernel_rfl) rfl ?o0 (Am.consQ (o:=Ua) [0] (by kernel_rfl) (by decide) (by kernel_rfl) rfl ?o1 (Am.consQ (o:=Ub) [] (by kernel_rfl) (by decide) (by kernel_rfl) rfl ?o2 (Am.consQ (o:=Zz) [] (by kernel_rfl) (by decide) (by kernel_rfl) rfl ?o3 (Am.consQ (o:=Uc) [] (by kernel_rfl) (by decide) (by kernel_rfl) rfl ?o4 (Am.consQ (o:=Ud) [4] (by kernel_rfl) (by decide) (by kernel_rfl) rfl ?o5 (Am.consQ (o:=Ue) [3,5] (by kernel_rfl) (by decide) (by kernel_rfl) rfl ?o6 (Am.consQ (o:=Uf) [6] (by kernel_rfl) (by decide) (by kernel_rfl) rfl ?o7 (Am.consQ (o:=Ug) [1,2,0,1,2,3,4,5,6,7] (by kernel_rfl) (by decide) (by kernel_rfl) rfl ?o8 (Am.consQ (o:=Uh) [8,0,1,2,3,4,5,6,7] (by kernel_rfl) (by decide) (by kernel_rfl) rfl ?o9 (Am.lastQ (o:=Pb) [9,7,5,0,1,2,3,4,5,6,7] (by kernel_rfl) (by kernel_rfl) rfl ?o10))))))))));case o0 =>
  rintro Q' L _ W h0L hpre ⟨v,rfl,hv,hg⟩ K hK;have r7:=(Bj (v:=v) (show 7 ∉ ([95,96,97,98,99,100,101,102,103,104]:List Nat) by decide)).trans h7;have he : execOp (Aq a [95, 96, 97, 98, 99, 100, 101, 102, 103, 104] v).eval T9 = execOp (Act.eval ⟨#[undef], []⟩) ⟨some 0, .fieldAddr 46 (.const (.pointer (some ⟨Y, 0, none⟩))) 2, 0, "", #[], none⟩ := by simp only[execOp, Af, T9, r7]
  refine Df.mk ?_;unfold Oper.wp;rw[he];clear he;go_simp;exact hK.out _ _ (Bm.next hv 0 (.pointer (some ⟨Y,2,none⟩)) (Az 0 hnd rfl) (K6.keep (Cv.refl _ _)) rfl (hg.keep (by decide) fun _ h=>h))
 case o1 =>
  rintro Q' L _ W h0L hpre ⟨v,rfl,hv,hg⟩ K hK;obtain⟨k',hk',hJ'⟩:=hg.get;have cy:=Aa9 hJ';have r95:(Aq a [95,96,97,98,99,100,101,102,103,104] v).eval (.tmp 95)=_:=(Au 0 hnd rfl (by omega)).trans (hv 0 (hpre 0 (by simp)));have he : execOp (Aq a [95, 96, 97, 98, 99, 100, 101, 102, 103, 104] v).eval Ua = execOp (Act.eval ⟨#[undef], []⟩) ⟨some 0, .load 44 (.const (.pointer (some ⟨Y, 2, none⟩))), 0, "", #[], none⟩ := by simp only[execOp, Af, Ua, r95]
  refine Df.mk ?_;unfold Oper.wp;rw[he];clear he;go_simp;exact hK.out _ _ (Bm.next hv 1 (.slice (some ⟨l,0,none⟩) nl yc) (Az 1 hnd rfl) (K6.keep (Cv.refl _ _)) rfl (hg.keep (by decide) fun _ h=>h))
 case o2 =>
  rintro Q' L _ W h0L hpre ⟨v,rfl,hv,hg⟩ K hK;have r8:=(Bj (v:=v) (show 8 ∉ ([95,96,97,98,99,100,101,102,103,104]:List Nat) by decide)).trans h8;have he : execOp (Aq a [95, 96, 97, 98, 99, 100, 101, 102, 103, 104] v).eval Ub = execOp (Act.eval ⟨#[undef], []⟩) ⟨some 0, .move (.const (.int .i64 (nI : Int))), 0, "", #[], none⟩ := by simp only[execOp, Af, Ub, r8]
  refine Df.mk ?_;unfold Oper.wp;rw[he];clear he;go_simp;exact hK.out _ _ (Bm.next hv 2 (.int .i64 (nI:Int)) (Az 2 hnd rfl) (K6.keep (Cv.refl _ _)) rfl (hg.keep (by decide) fun _ h=>h))
 case o3 =>
  rintro Q' L _ W h0L hpre ⟨v,rfl,hv,hg⟩ K hK;obtain⟨k',hk',hJ'⟩:=hg.get;have he : execOp (Aq a [95, 96, 97, 98, 99, 100, 101, 102, 103, 104] v).eval Zz = execOp (Act.eval ⟨#[undef], []⟩) ⟨some 0, .buildSlice 52 3 #[(0, .const (.string ⟨#[]⟩)), (1, .const (.string ⟨#[105, 109, 97, 103, 101]⟩)), (2, .const (.string ⟨#[122, 111, 110, 101]⟩))], 0, "", #[], none⟩ := by kernel_rfl
  refine Df.mk ?_;unfold Oper.wp;rw[he];clear he;go_simp;exact hK.out _ _ (Bm.next hv 3 (.slice (some ⟨W.heap.size,0,none⟩) 3 3) (Az 3 hnd rfl) (K6.keep (Cv.alloc _ _ _)) ⟨_,rfl,Al _ _,hJ'.1.rd.lt⟩ (hg.keep (by decide) fun _ h=>h.below ((Below.refl _ _).alloc (Nat.le_refl _) _)))
 case o4 =>
  rintro Q' L _ W h0L hpre ⟨v,rfl,hv,hg⟩ K hK;have r0:=(Bj (v:=v) (show 0 ∉ ([95,96,97,98,99,100,101,102,103,104]:List Nat) by decide)).trans h0;have he : execOp (Aq a [95, 96, 97, 98, 99, 100, 101, 102, 103, 104] v).eval Uc = execOp (Act.eval ⟨#[undef], []⟩) ⟨some 0, .move (.const (.pointer (some ⟨p, 0, none⟩))), 0, "", #[], none⟩ := by simp only[execOp, Af, Uc, r0]
  refine Df.mk ?_;unfold Oper.wp;rw[he];clear he;go_simp;exact hK.out _ _ (Bm.next hv 4 (.pointer (some ⟨p,0,none⟩)) (Az 4 hnd rfl) (K6.keep (Cv.refl _ _)) rfl (hg.keep (by decide) fun _ h=>h))
 case o5 =>
  rintro Q' L _ W h0L hpre ⟨v,rfl,hv,hg⟩ K hK;have r99:(Aq a [95,96,97,98,99,100,101,102,103,104] v).eval (.tmp 99)=_:=(Au 4 hnd rfl (by omega)).trans (hv 4 (hpre 4 (by simp)));obtain⟨k',hk',hJ'⟩:=hg.get0 h0L;have HP:=Bn B p k' 3 W hJ'.1.rd (by omega) (by omega) (by omega);have he : execOp (Aq a [95, 96, 97, 98, 99, 100, 101, 102, 103, 104] v).eval Ud = execOp (Act.eval ⟨#[undef], []⟩) ⟨some 0, .call { callee := .value (.func 44), args := #[.const (.pointer (some ⟨p, 0, none⟩)), .const (.int .i64 3)], argTypes := #[65, 3] }, 0, "", #[], none⟩ := by simp only[execOp, Af, Eo, Ud, resolve, List.map_toArray, List.map_cons, List.map_nil, r99]
  refine Df.mk ?_;unfold Oper.wp;rw[he];clear he;go_simp;refine HP.mono ?_;rintro e W' ⟨y,hy,rfl,hr',hg'⟩;exact hK.out _ _ (Bm.next hv 5 (.int .i64 (y:Int)) (Az 5 hnd rfl) (K6.keep (Cv.grown hg')) ⟨y,hy,rfl⟩ (Xr.put hk' (Nat.le_refl _) (hJ'.grown hg' hr')))
 case o6 =>
  rintro Q' L _ W h0L hpre ⟨v,rfl,hv,hg⟩ K hK;obtain⟨t,e3,ht⟩:=hv 3 (hpre 3 (by simp));obtain⟨y,hy,e5⟩:=hv 5 (hpre 5 (by simp));have r98:(Aq a [95,96,97,98,99,100,101,102,103,104] v).eval (.tmp 98)=_:=(Au 3 hnd rfl (by omega)).trans e3;have r100:(Aq a [95,96,97,98,99,100,101,102,103,104] v).eval (.tmp 100)=_:=(Au 5 hnd rfl (by omega)).trans e5;have y0:(0:Int)≤(y:Int):=by omega
  have y3:(y:Int)<3:=by omega
  have he : execOp (Aq a [95, 96, 97, 98, 99, 100, 101, 102, 103, 104] v).eval Ue = execOp (Act.eval ⟨#[undef], []⟩) ⟨some 0, .indexAddr 52 (.const (.slice (some ⟨t, 0, none⟩) 3 3)) (.const (.int .i64 (y : Int))), 0, "", #[], none⟩ := by simp only[execOp, Af, Ue, r98, r100]
  refine Df.mk ?_;unfold Oper.wp;rw[he];clear he;go_simp;exact hK.out _ _ (Bm.next hv 6 (.pointer (some ⟨t,y,none⟩)) (Az 6 hnd rfl) (K6.keep (Cv.refl _ _)) ⟨t,y,hy,rfl,ht⟩ (hg.keep (by decide) fun _ h=>h))
 case o7 =>
  rintro Q' L _ W h0L hpre ⟨v,rfl,hv,hg⟩ K hK;obtain⟨t,y,hy,e6,ht⟩:=hv 6 (hpre 6 (by simp));obtain⟨u,hu,hcell⟩:=ht.cell (show y<Aep.length from hy);have r101:(Aq a [95,96,97,98,99,100,101,102,103,104] v).eval (.tmp 101)=_:=(Au 6 hnd rfl (by omega)).trans e6;have he : execOp (Aq a [95, 96, 97, 98, 99, 100, 101, 102, 103, 104] v).eval Uf = execOp (Act.eval ⟨#[undef], []⟩) ⟨some 0, .load 9 (.const (.pointer (some ⟨t, y, none⟩))), 0, "", #[], none⟩ := by simp only[execOp, Af, Uf, r101]
  refine Df.mk ?_;unfold Oper.wp;rw[he];clear he;go_simp;exact hK.out _ _ (Bm.next hv 7 (.string u) (Az 7 hnd rfl) (K6.keep (Cv.refl _ _)) ⟨u,rfl⟩ (hg.keep (by decide) fun _ h=>h))
 case o8 =>
  rintro Q' L _ W h0L hpre ⟨v,rfl,hv,hg⟩ K hK;have r96:(Aq a [95,96,97,98,99,100,101,102,103,104] v).eval (.tmp 96)=_:=(Au 1 hnd rfl (by omega)).trans (hv 1 (hpre 1 (by simp)));have r97:(Aq a [95,96,97,98,99,100,101,102,103,104] v).eval (.tmp 97)=_:=(Au 2 hnd rfl (by omega)).trans (hv 2 (hpre 2 (by simp)));have he : execOp (Aq a [95, 96, 97, 98, 99, 100, 101, 102, 103, 104] v).eval Ug = execOp (Act.eval ⟨#[undef], []⟩) ⟨some 0, .indexAddr 44 (.const (.slice (some ⟨l, 0, none⟩) nl yc)) (.const (.int .i64 (nI : Int))), 0, "", #[], none⟩ := by simp only[execOp, Af, Ug, r96, r97]
  refine Df.mk ?_;unfold Oper.wp;rw[he];clear he;go_simp;exact hK.out _ _ (Bm.next hv 8 (.pointer (some ⟨l,nI * 2,none⟩)) (Az 8 hnd rfl) (K6.keep (Cv.refl _ _)) rfl (hg.keep (by decide) fun _ h=>h))
 case o9 =>
  rintro Q' L _ W h0L hpre ⟨v,rfl,hv,hg⟩ K hK;have r103:(Aq a [95,96,97,98,99,100,101,102,103,104] v).eval (.tmp 103)=_:=(Au 8 hnd rfl (by omega)).trans (hv 8 (hpre 8 (by simp)));have he : execOp (Aq a [95, 96, 97, 98, 99, 100, 101, 102, 103, 104] v).eval Uh = execOp (Act.eval ⟨#[undef], []⟩) ⟨some 0, .fieldAddr 115 (.const (.pointer (some ⟨l, nI * 2, none⟩))) 0, 0, "", #[], none⟩ := by simp only[execOp, Af, Uh, r103]
  refine Df.mk ?_;unfold Oper.wp;rw[he];clear he;go_simp;exact hK.out _ _ (Bm.next hv 9 (.pointer (some ⟨l,nI * 2,none⟩)) (Az 9 hnd rfl) (K6.keep (Cv.refl _ _)) rfl (hg.keep (by decide) fun _ h=>h))
 case o10 =>
  rintro Q' L _ W h0L hpre ⟨v,rfl,hv,hg⟩ K hK;obtain⟨u,e7⟩:=hv 7 (hpre 7 (by simp));have r104:(Aq a [95,96,97,98,99,100,101,102,103,104] v).eval (.tmp 104)=_:=(Au 9 hnd rfl (by omega)).trans (hv 9 (hpre 9 (by simp)));have r102:(Aq a [95,96,97,98,99,100,101,102,103,104] v).eval (.tmp 102)=_:=(Au 7 hnd rfl (by omega)).trans e7;obtain⟨k',hk',hJ'⟩:=hg.get;have cl:=hJ'.2.bm.lines.cell 0 (by decide);simp only[LAt.cells,List.getElem?_cons_zero,Nat.add_zero,hA]at cl;have fl:=Ago hJ' hn (nI * 2);have HS:=Aa (Im.key hJ'.1 hJ'.2 hn u);rw[hA]at HS;have he : execOp (Aq a [95, 96, 97, 98, 99, 100, 101, 102, 103, 104] v).eval Pb = execOp (Act.eval ⟨#[undef], []⟩) ⟨some 0, .store 9 (.const (.pointer (some ⟨l, nI * 2, none⟩))) (.const (.string u)), 0, "", #[], none⟩ := by simp only[execOp, Af, Pb, r104, r102]
  refine Df.mk ?_;unfold Oper.wp;rw[he];clear he;go_simp;exact hK.out _ _ (NoPanic.normal (hQ v u k' _ _ rfl hk' HS.out))
theorem Vc{l:Nat}{A:List LAt}{r wc:Nat}{s:List UInt8}{ss:List (List UInt8)}{cap:Nat}(hJ:St B p c X Y w1 D T ⟨yk,yn,.slice (some ⟨l,0,none⟩) nl yc,A++⟨xk,.slice (some ⟨r,0,none⟩) nw wc,s::ss⟩::E⟩ g n cap bk bn kk W)(hk:kk≤800000)(hA:A.length=nI)(hn:(A++⟨xk,.slice (some ⟨r,0,none⟩) nw wc,s::ss⟩::E).length=nl)(hnw:(s::ss).length=nw)(h0:a.eval (.tmp 0)=.pointer (some ⟨p,0,none⟩))(h7:a.eval (.tmp 7)=.pointer (some ⟨Y,0,none⟩))(h8:a.eval (.tmp 8)=.int .i64 (nI:Int))(hsz:a.tmps.size=199)
  (hQ:∀ v (t:ByteArray) k' W' a',a'=Aq a [121,122,123,124,125,126,127,128,129] v→k'≤kk+2→Im B p c X Y w1 D T ⟨yk,yn,.slice (some ⟨l,0,none⟩) nl yc,A++⟨xk,.slice (some ⟨r,0,none⟩) nw wc,s::ss⟩::E⟩ g n cap k' bk bn (.slice (some ⟨l,0,none⟩) nl yc) (A++⟨xk,.slice (some ⟨r,0,none⟩) nw wc,t.data.toList::ss⟩::E) W'→Q .normal a' W'):(Code.region 23 Aip.toArray true).wp Tryz.prog Q a W:=by
 have hnd:([121,122,123,124,125,126,127,128,129]:List Nat).Nodup:=by decide
 have hIn:nI<nl:=by rw[← hn,← hA];simp
 have i3:(0:Int)≤(nI:Int):=by omega
 have i4:(nI:Int)<(nl:Int):=by omega
 have i5:(0:Int)<(nw:Int):=by rw[← hnw];simp
 have i6:0<nw:=by omega
 refine Co [121,122,123,124,125,126,127,128,129] (fun i x _=>Aim p Y l nI r nw wc (.slice (some ⟨l,0,none⟩) nl yc) i x) (Xr (St B p c X Y w1 D T ⟨yk,yn,.slice (some ⟨l,0,none⟩) nl yc,A++⟨xk,.slice (some ⟨r,0,none⟩) nw wc,s::ss⟩::E⟩ g n cap bk bn) 7 kk 2) 9 10 [0,1,2,3,4,5,6,7,8,9] (by kernel_rfl) rfl (by decide) (by kernel_rfl) ?h1 ⟨_,Nat.le_refl _,hJ.below (Below.refl _ _).drew⟩ ?hall;case h1 =>
  intro i x W hi;unfold Aim;split <;> first | omega | trivial
 refine Am.consQ (o:=Ui) [] (by kernel_rfl) (by decide) (by kernel_rfl) rfl ?o0 (Am.consQ (o:=Uj) [0] (by kernel_rfl) (by decide) (by kernel_rfl) rfl ?o1 (Am.consQ (o:=Uk) [] (by kernel_rfl) (by decide) (by kernel_rfl) rfl ?o2 (Am.consQ (o:=Ul) [1,2] (by kernel_rfl) (by decide) (by kernel_rfl) rfl ?o3 (Am.consQ (o:=Um) [3] (by kernel_rfl) (by decide) (by kernel_rfl) rfl ?o4 (Am.consQ (o:=Un) [4] (by kernel_rfl) (by decide) (by kernel_rfl) rfl ?o5 (Am.consQ (o:=Uo) [] (by kernel_rfl) (by decide) (by kernel_rfl) rfl ?o6 (Am.consQ (o:=Up) [6] (by kernel_rfl) (by decide) (by kernel_rfl) rfl ?o7 (Am.consQ (o:=Uq) [5,0,1,2,3,4,5,6,7] (by kernel_rfl) (by decide) (by kernel_rfl) rfl ?o8 (Am.lastQ (o:=Ur) [8,7,7,0,1,2,3,4,5,6,7] (by kernel_rfl) (by kernel_rfl) rfl ?o9)))))))));case o0 =>
  rintro Q' L _ W h0L hpre ⟨v,rfl,hv,hg⟩ K hK;have r7:=(Bj (v:=v) (show 7 ∉ ([121,122,123,124,125,126,127,128,129]:List Nat) by decide)).trans h7;have he : execOp (Aq a [121, 122, 123, 124, 125, 126, 127, 128, 129] v).eval Ui = execOp (Act.eval ⟨#[undef], []⟩) ⟨some 0, .fieldAddr 46 (.const (.pointer (some ⟨Y, 0, none⟩))) 2, 0, "", #[], none⟩ := by simp only[execOp, Af, Ui, r7]
  refine Df.mk ?_;unfold Oper.wp;rw[he];clear he;go_simp;exact hK.out _ _ (Bm.next (W:=W) hv 0 (.pointer (some ⟨Y,2,none⟩)) (Az 0 hnd rfl) (fun _ _ h=>h) rfl (hg.keep (by decide) fun _ h=>h))
 case o1 =>
  rintro Q' L _ W h0L hpre ⟨v,rfl,hv,hg⟩ K hK;obtain⟨k',hk',hJ'⟩:=hg.get;have cy:=Aa9 hJ';have r121:(Aq a [121,122,123,124,125,126,127,128,129] v).eval (.tmp 121)=_:=(Au 0 hnd rfl (by omega)).trans (hv 0 (hpre 0 (by simp)));have he : execOp (Aq a [121, 122, 123, 124, 125, 126, 127, 128, 129] v).eval Uj = execOp (Act.eval ⟨#[undef], []⟩) ⟨some 0, .load 44 (.const (.pointer (some ⟨Y, 2, none⟩))), 0, "", #[], none⟩ := by simp only[execOp, Af, Uj, r121]
  refine Df.mk ?_;unfold Oper.wp;rw[he];clear he;go_simp;exact hK.out _ _ (Bm.next (W:=W) hv 1 (.slice (some ⟨l,0,none⟩) nl yc) (Az 1 hnd rfl) (fun _ _ h=>h) rfl (hg.keep (by decide) fun _ h=>h))
 case o2 =>
  rintro Q' L _ W h0L hpre ⟨v,rfl,hv,hg⟩ K hK;have r8:=(Bj (v:=v) (show 8 ∉ ([121,122,123,124,125,126,127,128,129]:List Nat) by decide)).trans h8;have he : execOp (Aq a [121, 122, 123, 124, 125, 126, 127, 128, 129] v).eval Uk = execOp (Act.eval ⟨#[undef], []⟩) ⟨some 0, .move (.const (.int .i64 (nI : Int))), 0, "", #[], none⟩ := by simp only[execOp, Af, Uk, r8]
  refine Df.mk ?_;unfold Oper.wp;rw[he];clear he;go_simp;exact hK.out _ _ (Bm.next (W:=W) hv 2 (.int .i64 (nI:Int)) (Az 2 hnd rfl) (fun _ _ h=>h) rfl (hg.keep (by decide) fun _ h=>h))
 case o3 =>
  rintro Q' L _ W h0L hpre ⟨v,rfl,hv,hg⟩ K hK;have r122:(Aq a [121,122,123,124,125,126,127,128,129] v).eval (.tmp 122)=_:=(Au 1 hnd rfl (by omega)).trans (hv 1 (hpre 1 (by simp)));have r123:(Aq a [121,122,123,124,125,126,127,128,129] v).eval (.tmp 123)=_:=(Au 2 hnd rfl (by omega)).trans (hv 2 (hpre 2 (by simp)));have he : execOp (Aq a [121, 122, 123, 124, 125, 126, 127, 128, 129] v).eval Ul = execOp (Act.eval ⟨#[undef], []⟩) ⟨some 0, .indexAddr 44 (.const (.slice (some ⟨l, 0, none⟩) nl yc)) (.const (.int .i64 (nI : Int))), 0, "", #[], none⟩ := by simp only[execOp, Af, Ul, r122, r123]
  refine Df.mk ?_;unfold Oper.wp;rw[he];clear he;go_simp;exact hK.out _ _ (Bm.next (W:=W) hv 3 (.pointer (some ⟨l,nI * 2,none⟩)) (Az 3 hnd rfl) (fun _ _ h=>h) rfl (hg.keep (by decide) fun _ h=>h))
 case o4 =>
  rintro Q' L _ W h0L hpre ⟨v,rfl,hv,hg⟩ K hK;have r124:(Aq a [121,122,123,124,125,126,127,128,129] v).eval (.tmp 124)=_:=(Au 3 hnd rfl (by omega)).trans (hv 3 (hpre 3 (by simp)));have he : execOp (Aq a [121, 122, 123, 124, 125, 126, 127, 128, 129] v).eval Um = execOp (Act.eval ⟨#[undef], []⟩) ⟨some 0, .fieldAddr 115 (.const (.pointer (some ⟨l, nI * 2, none⟩))) 1, 0, "", #[], none⟩ := by simp only[execOp, Af, Um, r124]
  refine Df.mk ?_;unfold Oper.wp;rw[he];clear he;go_simp;exact hK.out _ _ (Bm.next (W:=W) hv 4 (.pointer (some ⟨l,nI * 2+1,none⟩)) (Az 4 hnd rfl) (fun _ _ h=>h) rfl (hg.keep (by decide) fun _ h=>h))
 case o5 =>
  rintro Q' L _ W h0L hpre ⟨v,rfl,hv,hg⟩ K hK;obtain⟨k',hk',hJ'⟩:=hg.get;have cl:=hJ'.2.bm.lines.cell 1 (by decide);simp only[LAt.cells,List.getElem?_cons_zero,List.getElem?_cons_succ,hA]at cl;have r125:(Aq a [121,122,123,124,125,126,127,128,129] v).eval (.tmp 125)=_:=(Au 4 hnd rfl (by omega)).trans (hv 4 (hpre 4 (by simp)));have he : execOp (Aq a [121, 122, 123, 124, 125, 126, 127, 128, 129] v).eval Un = execOp (Act.eval ⟨#[undef], []⟩) ⟨some 0, .load 52 (.const (.pointer (some ⟨l, nI * 2 + 1, none⟩))), 0, "", #[], none⟩ := by simp only[execOp, Af, Un, r125]
  refine Df.mk ?_;unfold Oper.wp;rw[he];clear he;go_simp;exact hK.out _ _ (Bm.next (W:=W) hv 5 (.slice (some ⟨r,0,none⟩) nw wc) (Az 5 hnd rfl) (fun _ _ h=>h) rfl (hg.keep (by decide) fun _ h=>h))
 case o6 =>
  rintro Q' L _ W h0L hpre ⟨v,rfl,hv,hg⟩ K hK;have r0:=(Bj (v:=v) (show 0 ∉ ([121,122,123,124,125,126,127,128,129]:List Nat) by decide)).trans h0;have he : execOp (Aq a [121, 122, 123, 124, 125, 126, 127, 128, 129] v).eval Uo = execOp (Act.eval ⟨#[undef], []⟩) ⟨some 0, .move (.const (.pointer (some ⟨p, 0, none⟩))), 0, "", #[], none⟩ := by simp only[execOp, Af, Uo, r0]
  refine Df.mk ?_;unfold Oper.wp;rw[he];clear he;go_simp;exact hK.out _ _ (Bm.next (W:=W) hv 6 (.pointer (some ⟨p,0,none⟩)) (Az 6 hnd rfl) (fun _ _ h=>h) rfl (hg.keep (by decide) fun _ h=>h))
 case o7 =>
  rintro Q' L _ W h0L hpre ⟨v,rfl,hv,hg⟩ K hK;have r127:(Aq a [121,122,123,124,125,126,127,128,129] v).eval (.tmp 127)=_:=(Au 6 hnd rfl (by omega)).trans (hv 6 (hpre 6 (by simp)));obtain⟨k',hk',hJ'⟩:=hg.get0 h0L;have HP:=Sr B p k' W hJ'.1.rd (by omega);have he : execOp (Aq a [121, 122, 123, 124, 125, 126, 127, 128, 129] v).eval Up = execOp (Act.eval ⟨#[undef], []⟩) ⟨some 0, .call { callee := .value (.func 164), args := #[.const (.pointer (some ⟨p, 0, none⟩))], argTypes := #[65] }, 0, "", #[], none⟩ := by simp only[execOp, Af, Eo, Up, resolve, List.map_toArray, List.map_cons, List.map_nil, r127]
  refine Df.mk ?_;unfold Oper.wp;rw[he];clear he;go_simp;refine HP.mono ?_;rintro e W' ⟨t,k2,ht,hk2,rfl,hr',hg'⟩;exact hK.out _ _ (Bm.next (W:=W) hv 7 (.string t) (Az 7 hnd rfl) (fun _ _ h=>h) ⟨t,ht,rfl⟩ (Xr.put hk' hk2 (hJ'.grown hg' hr')))
 case o8 =>
  rintro Q' L _ W h0L hpre ⟨v,rfl,hv,hg⟩ K hK;have r126:(Aq a [121,122,123,124,125,126,127,128,129] v).eval (.tmp 126)=_:=(Au 5 hnd rfl (by omega)).trans (hv 5 (hpre 5 (by simp)));have he : execOp (Aq a [121, 122, 123, 124, 125, 126, 127, 128, 129] v).eval Uq = execOp (Act.eval ⟨#[undef], []⟩) ⟨some 0, .indexAddr 52 (.const (.slice (some ⟨r, 0, none⟩) nw wc)) (.const (.int .i64 0)), 0, "", #[], none⟩ := by simp only[execOp, Af, Uq, r126]
  refine Df.mk ?_;unfold Oper.wp;rw[he];clear he;go_simp;exact hK.out _ _ (Bm.next (W:=W) hv 8 (.pointer (some ⟨r,0,none⟩)) (Az 8 hnd rfl) (fun _ _ h=>h) rfl (hg.keep (by decide) fun _ h=>h))
 case o9 =>
  rintro Q' L _ W h0L hpre ⟨v,rfl,hv,hg⟩ K hK;obtain⟨t,ht,e7⟩:=hv 7 (hpre 7 (by simp));have r129:(Aq a [121,122,123,124,125,126,127,128,129] v).eval (.tmp 129)=_:=(Au 8 hnd rfl (by omega)).trans (hv 8 (hpre 8 (by simp)));have r128:(Aq a [121,122,123,124,125,126,127,128,129] v).eval (.tmp 128)=_:=(Au 7 hnd rfl (by omega)).trans e7;obtain⟨k',hk',hJ'⟩:=hg.get;have hwr:=hJ'.2.bm.lines.words;simp only[hnw]at hwr;have cl:=hwr.cellAt 0 (by have:=i5;omega);simp only[strs,List.map_cons,List.getElem?_cons_zero]at cl;have fl:=hwr.frozenAt 0;have HS:=Aa (Im.word hJ'.1 hJ'.2 t ht);have he : execOp (Aq a [121, 122, 123, 124, 125, 126, 127, 128, 129] v).eval Ur = execOp (Act.eval ⟨#[undef], []⟩) ⟨some 0, .store 9 (.const (.pointer (some ⟨r, 0, none⟩))) (.const (.string t)), 0, "", #[], none⟩ := by simp only[execOp, Af, Ur, r129, r128]
  refine Df.mk ?_;unfold Oper.wp;rw[he];clear he;go_simp;exact hK.out _ _ (NoPanic.normal (hQ v t k' _ _ rfl hk' HS.out))
variable {W0:World}
def Ais(Y l:Nat)(lv v1:Value)(i:Nat)(x:Value):Prop:=match i with
 | 0=>x=.pointer (some ⟨Y,2,none⟩)
 | 1=>x=lv
 | 2=>x=.pointer (some ⟨Y,2,none⟩)
 | 3=>x=lv
 | 4=>x=.pointer (some ⟨l,2,none⟩)
 | 5=>x=v1
 | 6=>x=.pointer (some ⟨l,0,none⟩)
 | _=>True
theorem Vd{l:Nat}{x0:LAt}{k1:ByteArray}{a1:Option Addr}{n1 c1:Nat}{u1:List (List UInt8)}{cap:Nat}(hJ:St B p c X Y w1 D T ⟨yk,yn,.slice (some ⟨l,0,none⟩) nl yc,x0::⟨k1,.slice a1 n1 c1,u1⟩::E⟩ g n cap bk bn kk W0)(hn:(x0::⟨k1,.slice a1 n1 c1,u1⟩::E).length=nl)(h7:a.eval (.tmp 7)=.pointer (some ⟨Y,0,none⟩))(hsz:a.tmps.size=199)
  (hQ:∀ v W' a',a'=Aq a [156,157,158,159,160,161,162] v→St B p c X Y w1 D T ⟨yk,yn,.slice (some ⟨l,0,none⟩) nl yc,x0::⟨k1,.slice a1 n1 c1,u1⟩::E⟩ g n cap bk bn kk W'→Below W0.heap.size W0 W'→Q .normal a' (W'.setCells l 0 [.string k1,.slice a1 n1 c1])):(Code.region 30 Air.toArray true).wp Tryz.prog Q a W0:=by
 have hnd:([156,157,158,159,160,161,162]:List Nat).Nodup:=by decide
 have hl2:2≤nl:=by rw[← hn];simp
 have i4:(1:Int)<(nl:Int):=by omega
 have i5:(0:Int)<(nl:Int):=by omega
 have i6:1<nl:=by omega
 have i7:0<nl:=by omega
 refine Co [156,157,158,159,160,161,162] (fun i x _=>Ais Y l (.slice (some ⟨l,0,none⟩) nl yc) (.agg #[.string k1,.slice a1 n1 c1]) i x) (fun _ W=>St B p c X Y w1 D T ⟨yk,yn,.slice (some ⟨l,0,none⟩) nl yc,x0::⟨k1,.slice a1 n1 c1,u1⟩::E⟩ g n cap bk bn kk W∧Below W0.heap.size W0 W) 7 8 [0,1,2,3,4,5,6,7] (by kernel_rfl) rfl (by decide) (by kernel_rfl) ?h1 ⟨hJ.below (Below.refl _ _).drew,(Below.refl _ _).drew⟩ ?hall;case h1 =>
  intro i x W hi;unfold Ais;split <;> first | omega | trivial
 refine Am.consQ (o:=U1) [] (by kernel_rfl) (by decide) (by kernel_rfl) rfl ?o0 (Am.consQ (o:=U4) [0] (by kernel_rfl) (by decide) (by kernel_rfl) rfl ?o1 (Am.consQ (o:=U5) [] (by kernel_rfl) (by decide) (by kernel_rfl) rfl ?o2 (Am.consQ (o:=U6) [2] (by kernel_rfl) (by decide) (by kernel_rfl) rfl ?o3 (Am.consQ (o:=U7) [3] (by kernel_rfl) (by decide) (by kernel_rfl) rfl ?o4 (Am.consQ (o:=U8) [4] (by kernel_rfl) (by decide) (by kernel_rfl) rfl ?o5 (Am.consQ (o:=U9) [1,0,1,2,3,4,5] (by kernel_rfl) (by decide) (by kernel_rfl) rfl ?o6 (Am.lastQ (o:=Va) [6,5,0,1,2,3,4,5] (by kernel_rfl) (by kernel_rfl) rfl ?o7)))))));case o0 =>
  rintro Q' L _ W h0L hpre ⟨v,rfl,hv,hg,hb⟩ K hK;have r7:=(Bj (v:=v) (show 7 ∉ ([156,157,158,159,160,161,162]:List Nat) by decide)).trans h7;have he : execOp (Aq a [156, 157, 158, 159, 160, 161, 162] v).eval U1 = execOp (Act.eval ⟨#[undef], []⟩) ⟨some 0, .fieldAddr 46 (.const (.pointer (some ⟨Y, 0, none⟩))) 2, 0, "", #[], none⟩ := by simp only[execOp, Af, U1, r7]
  refine Df.mk ?_;unfold Oper.wp;rw[he];clear he;go_simp;exact hK.out _ _ (Bm.next (W:=W) hv 0 (.pointer (some ⟨Y,2,none⟩)) (Az 0 hnd rfl) (fun _ _ h=>h) rfl ⟨hg,hb⟩)
 case o1 =>
  rintro Q' L _ W h0L hpre ⟨v,rfl,hv,hg,hb⟩ K hK;have cy:=Aa9 hg;have r156:(Aq a [156,157,158,159,160,161,162] v).eval (.tmp 156)=_:=(Au 0 hnd rfl (by omega)).trans (hv 0 (hpre 0 (by simp)));have he : execOp (Aq a [156, 157, 158, 159, 160, 161, 162] v).eval U4 = execOp (Act.eval ⟨#[undef], []⟩) ⟨some 0, .load 44 (.const (.pointer (some ⟨Y, 2, none⟩))), 0, "", #[], none⟩ := by simp only[execOp, Af, U4, r156]
  refine Df.mk ?_;unfold Oper.wp;rw[he];clear he;go_simp;exact hK.out _ _ (Bm.next (W:=W) hv 1 (.slice (some ⟨l,0,none⟩) nl yc) (Az 1 hnd rfl) (fun _ _ h=>h) rfl ⟨hg,hb⟩)
 case o2 =>
  rintro Q' L _ W h0L hpre ⟨v,rfl,hv,hg,hb⟩ K hK;have r7:=(Bj (v:=v) (show 7 ∉ ([156,157,158,159,160,161,162]:List Nat) by decide)).trans h7;have he : execOp (Aq a [156, 157, 158, 159, 160, 161, 162] v).eval U5 = execOp (Act.eval ⟨#[undef], []⟩) ⟨some 0, .fieldAddr 46 (.const (.pointer (some ⟨Y, 0, none⟩))) 2, 0, "", #[], none⟩ := by simp only[execOp, Af, U5, r7]
  refine Df.mk ?_;unfold Oper.wp;rw[he];clear he;go_simp;exact hK.out _ _ (Bm.next (W:=W) hv 2 (.pointer (some ⟨Y,2,none⟩)) (Az 2 hnd rfl) (fun _ _ h=>h) rfl ⟨hg,hb⟩)
 case o3 =>
  rintro Q' L _ W h0L hpre ⟨v,rfl,hv,hg,hb⟩ K hK;have cy:=Aa9 hg;have r158:(Aq a [156,157,158,159,160,161,162] v).eval (.tmp 158)=_:=(Au 2 hnd rfl (by omega)).trans (hv 2 (hpre 2 (by simp)));have he : execOp (Aq a [156, 157, 158, 159, 160, 161, 162] v).eval U6 = execOp (Act.eval ⟨#[undef], []⟩) ⟨some 0, .load 44 (.const (.pointer (some ⟨Y, 2, none⟩))), 0, "", #[], none⟩ := by simp only[execOp, Af, U6, r158]
  refine Df.mk ?_;unfold Oper.wp;rw[he];clear he;go_simp;exact hK.out _ _ (Bm.next (W:=W) hv 3 (.slice (some ⟨l,0,none⟩) nl yc) (Az 3 hnd rfl) (fun _ _ h=>h) rfl ⟨hg,hb⟩)
 case o4 =>
  rintro Q' L _ W h0L hpre ⟨v,rfl,hv,hg,hb⟩ K hK;have r159:(Aq a [156,157,158,159,160,161,162] v).eval (.tmp 159)=_:=(Au 3 hnd rfl (by omega)).trans (hv 3 (hpre 3 (by simp)));have he : execOp (Aq a [156, 157, 158, 159, 160, 161, 162] v).eval U7 = execOp (Act.eval ⟨#[undef], []⟩) ⟨some 0, .indexAddr 44 (.const (.slice (some ⟨l, 0, none⟩) nl yc)) (.const (.int .i64 1)), 0, "", #[], none⟩ := by simp only[execOp, Af, U7, r159]
  refine Df.mk ?_;unfold Oper.wp;rw[he];clear he;go_simp;exact hK.out _ _ (Bm.next (W:=W) hv 4 (.pointer (some ⟨l,2,none⟩)) (Az 4 hnd rfl) (fun _ _ h=>h) rfl ⟨hg,hb⟩)
 case o5 =>
  rintro Q' L _ W h0L hpre ⟨v,rfl,hv,hg,hb⟩ K hK;have lr:=hg.2.bm.lines.size hn;have cx2:=lr.cellAt 2 (by omega);have cx3:=lr.cellAt 3 (by omega);simp only[LAt.cells,List.flatMap_cons,List.cons_append,List.nil_append,List.getElem?_cons_zero,List.getElem?_cons_succ]at cx2 cx3;have r160:(Aq a [156,157,158,159,160,161,162] v).eval (.tmp 160)=_:=(Au 4 hnd rfl (by omega)).trans (hv 4 (hpre 4 (by simp)));have he : execOp (Aq a [156, 157, 158, 159, 160, 161, 162] v).eval U8 = execOp (Act.eval ⟨#[undef], []⟩) ⟨some 0, .load 115 (.const (.pointer (some ⟨l, 2, none⟩))), 0, "", #[], none⟩ := by simp only[execOp, Af, U8, r160]
  refine Df.mk ?_;unfold Oper.wp;rw[he];clear he;go_simp;exact hK.out _ _ (Bm.next (W:=W) hv 5 (.agg #[.string k1,.slice a1 n1 c1]) (Az 5 hnd rfl) (fun _ _ h=>h) rfl ⟨hg,hb⟩)
 case o6 =>
  rintro Q' L _ W h0L hpre ⟨v,rfl,hv,hg,hb⟩ K hK;have r157:(Aq a [156,157,158,159,160,161,162] v).eval (.tmp 157)=_:=(Au 1 hnd rfl (by omega)).trans (hv 1 (hpre 1 (by simp)));have he : execOp (Aq a [156, 157, 158, 159, 160, 161, 162] v).eval U9 = execOp (Act.eval ⟨#[undef], []⟩) ⟨some 0, .indexAddr 44 (.const (.slice (some ⟨l, 0, none⟩) nl yc)) (.const (.int .i64 0)), 0, "", #[], none⟩ := by simp only[execOp, Af, U9, r157]
  refine Df.mk ?_;unfold Oper.wp;rw[he];clear he;go_simp;exact hK.out _ _ (Bm.next (W:=W) hv 6 (.pointer (some ⟨l,0,none⟩)) (Az 6 hnd rfl) (fun _ _ h=>h) rfl ⟨hg,hb⟩)
 case o7 =>
  rintro Q' L _ W h0L hpre ⟨v,rfl,hv,hg,hb⟩ K hK;have r162:(Aq a [156,157,158,159,160,161,162] v).eval (.tmp 162)=_:=(Au 6 hnd rfl (by omega)).trans (hv 6 (hpre 6 (by simp)));have r161:(Aq a [156,157,158,159,160,161,162] v).eval (.tmp 161)=_:=(Au 5 hnd rfl (by omega)).trans (hv 5 (hpre 5 (by simp)));have lr:=hg.2.bm.lines.size hn;have cx0:=lr.cellAt 0 (by omega);have cx1:=lr.cellAt 1 (by omega);simp only[LAt.cells,List.flatMap_cons,List.cons_append,List.nil_append,List.getElem?_cons_zero,List.getElem?_cons_succ]at cx0 cx1;have fl0:=lr.frozenAt 0;have fl1:=lr.frozenAt 1;have HQ:=Aa (hQ v W _ rfl hg hb);have he : execOp (Aq a [156, 157, 158, 159, 160, 161, 162] v).eval Va = execOp (Act.eval ⟨#[undef], []⟩) ⟨some 0, .store 115 (.const (.pointer (some ⟨l, 0, none⟩))) (.const (.agg #[.string k1, .slice a1 n1 c1])), 0, "", #[], none⟩ := by simp only[execOp, Af, Va, r162, r161]
  refine Df.mk ?_;unfold Oper.wp;rw[he];clear he;go_simp;exact hK.out _ _ (NoPanic.normal HQ.out)
end Go.Proofs.YtpdahhnjhggocaaGreatDoor
