import Derived.Test.YtpdahhnjhggocaaGreatDoorMz36
import Derived.Test.YtpdahhnjhggocaaGreatDoorMz45
namespace Go.Proofs.YtpdahhnjhggocaaGreatDoor
open Go.RowKit
set_option maxHeartbeats 16000000
set_option maxRecDepth 100000
variable {a:Act}{ds:List Nat}{d p m i B kk k n c sc:Nat}{w W W' w' W0:World}{v0 av bv:Value}{bs:List BAt}{Q:Exit → Act → World → Prop}{sa:Option Addr}
def Vh: Oper := { dst := some 17, op := Op.load 25 (Operand.tmp 5), type := 25, pos := "l8_draw.go:374", after := #[], guard := none }
def Vi: Oper := { dst := some 18, op := Op.move (Operand.tmp 4), type := 65, pos := "l8_draw.go:374", after := #[], guard := none }
def Vj: Oper := { dst := some 19, op := Op.load 25 (Operand.tmp 5), type := 25, pos := "l8_draw.go:374", after := #[], guard := none }
def Vk: Oper := { dst := some 20, op := Op.call { callee := Callee.value (Operand.func 45), args := #[Operand.tmp 18, Operand.tmp 19], argTypes := #[65, 25] }, type := 25, pos := "l8_draw.go:374", after := #[{ on := 1, ground := Ground.data }, { on := 2, ground := Ground.data }], guard := none }
def Vl: Oper := { dst := none, op := Op.store 25 (Operand.tmp 2) (Operand.tmp 17), type := 0, pos := "l8_draw.go:374", after := #[{ on := 0, ground := Ground.data }, { on := 3, ground := Ground.chain }, { on := 0, ground := Ground.phase }, { on := 1, ground := Ground.textOnly Departure.lateStores }, { on := 2, ground := Ground.textOnly Departure.lateStores }, { on := 3, ground := Ground.textOnly Departure.lateStoresUnsure }], guard := none }
def Vm: Oper := { dst := none, op := Op.store 25 (Operand.tmp 3) (Operand.tmp 20), type := 0, pos := "l8_draw.go:374", after := #[{ on := 3, ground := Ground.data }, { on := 4, ground := Ground.chain }, { on := 0, ground := Ground.phase }, { on := 1, ground := Ground.phase }, { on := 2, ground := Ground.phase }, { on := 3, ground := Ground.phase }, { on := 4, ground := Ground.phase }], guard := none }
def Aiu:List Oper:=[Vh,Vi,Vj,Vk,Vl,Vm]
def Vn: Oper := { dst := some 21, op := Op.load 25 (Operand.tmp 5), type := 25, pos := "l8_draw.go:376", after := #[], guard := none }
def Vo: Oper := { dst := some 22, op := Op.move (Operand.tmp 4), type := 65, pos := "l8_draw.go:376", after := #[], guard := none }
def Vp: Oper := { dst := some 23, op := Op.call { callee := Callee.value (Operand.func 43), args := #[Operand.tmp 22], argTypes := #[65] }, type := 25, pos := "l8_draw.go:376", after := #[{ on := 1, ground := Ground.data }], guard := none }
def Vq: Oper := { dst := none, op := Op.store 25 (Operand.tmp 2) (Operand.tmp 21), type := 0, pos := "l8_draw.go:376", after := #[{ on := 0, ground := Ground.data }, { on := 2, ground := Ground.chain }, { on := 0, ground := Ground.phase }, { on := 1, ground := Ground.textOnly Departure.lateStores }, { on := 2, ground := Ground.textOnly Departure.lateStoresUnsure }], guard := none }
def Vr: Oper := { dst := none, op := Op.store 25 (Operand.tmp 3) (Operand.tmp 23), type := 0, pos := "l8_draw.go:376", after := #[{ on := 2, ground := Ground.data }, { on := 3, ground := Ground.chain }, { on := 0, ground := Ground.phase }, { on := 1, ground := Ground.phase }, { on := 2, ground := Ground.phase }, { on := 3, ground := Ground.phase }], guard := none }
def Aiv:List Oper:=[Vn,Vo,Vp,Vq,Vr]
theorem X3{v:Nat→Value}(k:Nat){x:Value}(hn:ds.Nodup)(hk:ds[k]?=some d)(hd:a.tmps.size≤d):Aq a ds v=Aq a ds (fun j=>if j=k then x else v j):=by
 rw[← Az k hn hk];have hs:=Sm ds v 0 a.tmps;show Aq a ds v=({ (Aq a ds v) with tmps:=(Aq a ds v).tmps.setIfInBounds d x }:Act)
 have:(Aq a ds v).tmps.setIfInBounds d x=(Aq a ds v).tmps:=Array.setIfInBounds_eq_of_size_le (by unfold Aq;simp only;omega);rw[this]
structure Z8(w:World)(p A:Nat)(v0 av:Value)(bs:List BAt)(W:World):Prop where
 bw:Below w.heap.size w W
 r0:W.heap[w.heap.size]?=some (.cells #[v0] 25 (0,0))
 r1:W.heap[w.heap.size+1]?=some (.cells #[.slice none 0 0] 25 (0,0))
 ab:W.heap[A]?=some (.cells #[av] 25 (0,0))
 ain:Aw W av bs
 far:∀ q,q≤p→Bk q av bs
 hp:w.heap.size+2≤p
 pA:p<A
theorem Z8.below{A:Nat}(h:Z8 w p A v0 av bs W)(hb:Below W.heap.size W W'):Z8 w p A v0 av bs W' :=
 ⟨h.bw.trans (hb.mono h.bw.size),(hb.block _ (Array.getElem?_eq_some_iff.1 h.r0).1).trans h.r0,(hb.block _ (Array.getElem?_eq_some_iff.1 h.r1).1).trans h.r1,(hb.block A (Array.getElem?_eq_some_iff.1 h.ab).1).trans h.ab,h.ain.below hb,h.far,h.hp,h.pA⟩
theorem Z8.grown{A:Nat}(h:Z8 w p A v0 av bs W)(hg:W.grownBy W' (some p)):Z8 w p A v0 av bs W':=by
 have h1:=h.hp;have h2:=h.pA;have h3:=h.bw.size;exact⟨Bu h.bw h3 (by omega) hg,(hg.block w.heap.size (Array.getElem?_eq_some_iff.1 h.r0).1 (by intro e;have:=Option.some.inj e;omega)).trans h.r0,(hg.block (w.heap.size+1) (Array.getElem?_eq_some_iff.1 h.r1).1 (by intro e;have:=Option.some.inj e;omega)).trans h.r1,(hg.block A (Array.getElem?_eq_some_iff.1 h.ab).1 (by intro e;have:=Option.some.inj e;omega)).trans h.ab,h.ain.far (h.far p (Nat.le_refl _)) hg,h.far,h.hp,h.pA⟩
theorem Z8.store{A:Nat}(h:Z8 w p A v0 av bs W):Z8 w p A av av bs (W.setCell ⟨w.heap.size,0,none⟩ av):=by
 have h1:=h.hp;have h2:=h.pA;have h3:=h.bw.size;have gs:=C8 W w.heap.size 0 av;refine⟨Bu h.bw h3 (Nat.le_refl _) gs,?_,(gs.block (w.heap.size+1) (Array.getElem?_eq_some_iff.1 h.r1).1 (by intro e;have:=Option.some.inj e;omega)).trans h.r1,(gs.block A (Array.getElem?_eq_some_iff.1 h.ab).1 (by intro e;have:=Option.some.inj e;omega)).trans h.ab,h.ain.far (h.far _ (by omega)) gs,h.far,h.hp,h.pA⟩;rw[heap_setCell_same W w.heap.size 0 _ _ _ h.r0];rfl
def DvE(w:World)(av bv:Value)(bs cs:List BAt)(W:World):Prop:=Below w.heap.size w W∧W.cell? ⟨w.heap.size,0,none⟩=some av∧W.cell? ⟨w.heap.size+1,0,none⟩=some bv∧Aw W av bs∧Aw W bv cs∧A2 cs
theorem Z8.fin{A:Nat}{cs:List BAt}(h:Z8 w p A av av bs W)(hb:Aw W bv cs)(hf:∀ q,q≤p→Bk q bv cs)(hs:A2 cs):DvE w av bv bs cs (W.setCell ⟨w.heap.size+1,0,none⟩ bv):=by
 have h1:=h.hp;have h3:=h.bw.size;have gs:=C8 W (w.heap.size+1) 0 bv;have z1:(W.setCell ⟨w.heap.size+1,0,none⟩ bv).heap[w.heap.size+1]?=some (.cells #[bv] 25 (0,0)):=by rw[heap_setCell_same W (w.heap.size+1) 0 _ _ _ h.r1];rfl
 have z0:=(gs.block w.heap.size (Array.getElem?_eq_some_iff.1 h.r0).1 (by intro e;have:=Option.some.inj e;omega)).trans h.r0;have c0:=Ab z0 0;have c1:=Ab z1 0;simp only[List.getElem?_toArray,List.getElem?_cons_zero]at c0 c1;exact⟨Bu h.bw h3 (by omega) gs,c0,c1,h.ain.far (h.far _ (by omega)) gs,hb.far (hf _ (by omega)) gs,hs⟩
def DvF(p m:Nat)(av:Value)(i:Nat)(x:Value)(W:World):Prop:=(i=0→x=.agg #[av])∧(i=1→x=.pointer (some ⟨p,0,none⟩))∧(i=2→m=3→x=.agg #[av])∧(i=m→∃ a n c cs,x=.agg #[.slice a n c]∧Aw W (.slice a n c) cs∧A2 cs∧∀ q,q≤p→Bk q (.slice a n c) cs)
theorem DvF.keep{x:Value}(h:DvF p m av i x W)(k:i=m→∀ v cs,Aw W v cs→(∀ q,q≤p→Bk q v cs)→Aw W' v cs):DvF p m av i x W' :=
 ⟨h.1,h.2.1,h.2.2.1,fun e=>by
   obtain⟨a,n,c,cs,h1,h2,h3,h4⟩:=h.2.2.2 e;exact⟨a,n,c,cs,h1,k e _ _ h2 h4,h3,h4⟩⟩
def DvG(w:World)(B p A kk m s:Nat)(av:Value)(bs:List BAt)(L:Nat→Bool)(W:World):Prop:=∃ v0,(L s=true→v0=av)∧(L m=false→Rd B W p kk)∧Z8 w p A v0 av bs W
theorem DvG.keep{A s:Nat}{L:Nat→Bool}(h:DvG w B p A kk m s av bs L W)(h1:i≠s)(h2:i≠m):DvG w B p A kk m s av bs (Ef L i) W:=by
 obtain⟨v0,a1,a2,a3⟩:=h;exact⟨v0,by simpa [Ef,Ne.symm h1] using a1,by simpa [Ef,Ne.symm h2] using a2,a3⟩
theorem Acr(h:Ca (bs.map BAt.plain)=true):∀ b∈bs,b.ls.length≤1000:=fun b hb=>by
 have h1:=((Bh.1 h).2.1 b.plain (List.mem_map_of_mem hb)).2.2.few;have h2:=(C5 b.kind).1;simp only[BAt.plain,List.length_map]at h1;omega
theorem Sv{a:Option Addr}(h:Gk d B p k w (.returned (.agg #[.slice a n c])) w')(hp:p<w.heap.size):∃ cs,w.grownBy w' (some p)∧Aw w' (.slice a n c) cs∧A2 cs∧∀ q,q≤p→Bk q (.slice a n c) cs:=by
 obtain⟨a',n',c',bs,k',he,_,_,hg,hin,hs,hf⟩:=h;cases he
 exact⟨bs,hg,hin,hs.1,fun q hq=>hf q (by omega)⟩
theorem Ae1{A D:Nat}(hJ:Z8 w p A (.slice none 0 0) (.slice sa n sc) bs W0)(hr:Rd B W0 p kk)(HC:∀ W,Rd B W p kk→Aw W (.slice sa n sc) bs→Calls Tryz.prog 45 #[(.pointer (some ⟨p,0,none⟩)),.agg #[(.slice sa n sc)]] W fun e w'=>Gk D B p kk W e w')(h2:a.eval (.tmp 2)=.pointer (some ⟨w.heap.size,0,none⟩))(h3:a.eval (.tmp 3)=.pointer (some ⟨w.heap.size+1,0,none⟩))(h4:a.eval (.tmp 4)=(.pointer (some ⟨p,0,none⟩)))(h5:a.eval (.tmp 5)=(.pointer (some ⟨A,0,none⟩)))(hsz:a.tmps.size=24)
  (hQ:∀ u b m c cs W' a',a'=Aq a [17,18,19,20,24] u→DvE w (.slice sa n sc) (.slice b m c) bs cs W'→Q .normal a' W'):(Code.region 4 Aiu.toArray true).wp Tryz.prog Q a W0:=by
 have hnd:([17,18,19,20,24]:List Nat).Nodup:=by decide
 refine Co [17,18,19,20,24] (DvF p 3 (.slice sa n sc)) (DvG w B p A kk 3 4 (.slice sa n sc) bs) 5 6 [0,1,2,3,4,5] (by kernel_rfl) rfl (by decide) (by kernel_rfl) ?h1 ⟨_,(fun h=>by cases h),fun _=>hr.below (Below.refl _ _).drew,hJ.below (Below.refl _ _).drew⟩ ?hall;case h1 =>
  intro i x W hi;exact⟨fun e=>by omega,fun e=>by omega,fun e=>by omega,fun e=>by omega⟩
 refine Am.consQ (o:=Vh) [] (by kernel_rfl) (by decide) (by kernel_rfl) rfl ?o0 (Am.consQ (o:=Vi) [] (by kernel_rfl) (by decide) (by kernel_rfl) rfl ?o1 (Am.consQ (o:=Vj) [] (by kernel_rfl) (by decide) (by kernel_rfl) rfl ?o2 (Am.consQ (o:=Vk) [1,2] (by kernel_rfl) (by decide) (by kernel_rfl) rfl ?o3 (Am.consQ (o:=Vl) [0,3,0] (by kernel_rfl) (by decide) (by kernel_rfl) rfl ?o4 (Am.lastQ (o:=Vm) [3,4,0,1,2,3,4] (by kernel_rfl) (by kernel_rfl) rfl ?o5)))));case o0 =>
  rintro Q' L _ W h0L hpre ⟨v,rfl,hv,hg⟩ K hK;obtain⟨v0,hv0,hrd,hJ'⟩:=id hg;have cs:=Ab hJ'.ab 0;simp only[List.getElem?_toArray,List.getElem?_cons_zero]at cs;have r5:=(Bj (v:=v) (show 5 ∉ ([17,18,19,20,24]:List Nat) by decide)).trans h5;have he : execOp (Aq a [17, 18, 19, 20, 24] v).eval Vh = execOp (Act.eval ⟨#[undef], []⟩) ⟨some 0, .load 25 (.const (.pointer (some ⟨A, 0, none⟩))), 0, "", #[], none⟩ := by simp only[execOp, Af, Vh, r5]
  refine Df.mk ?_;unfold Oper.wp;rw[he];clear he;go_simp;exact hK.out _ _ (Bm.next (W:=W) hv 0 (.agg #[(.slice sa n sc)]) (Az 0 hnd rfl) (fun _ _ h=>h) ⟨fun _=>rfl,fun e=>by omega,fun _ _=>rfl,fun e=>by omega⟩ (hg.keep (by decide) (by decide)))
 case o1 =>
  rintro Q' L _ W h0L hpre ⟨v,rfl,hv,hg⟩ K hK;have r4:=(Bj (v:=v) (show 4 ∉ ([17,18,19,20,24]:List Nat) by decide)).trans h4;have he : execOp (Aq a [17, 18, 19, 20, 24] v).eval Vi = execOp (Act.eval ⟨#[undef], []⟩) ⟨some 0, .move (.const (.pointer (some ⟨p, 0, none⟩))), 0, "", #[], none⟩ := by simp only[execOp, Af, Vi, r4]
  refine Df.mk ?_;unfold Oper.wp;rw[he];clear he;go_simp;exact hK.out _ _ (Bm.next (W:=W) hv 1 (.pointer (some ⟨p,0,none⟩)) (Az 1 hnd rfl) (fun _ _ h=>h) ⟨fun e=>by omega,fun _=>rfl,fun e=>by omega,fun e=>by omega⟩ (hg.keep (by decide) (by decide)))
 case o2 =>
  rintro Q' L _ W h0L hpre ⟨v,rfl,hv,hg⟩ K hK;obtain⟨v0,hv0,hrd,hJ'⟩:=id hg;have cs:=Ab hJ'.ab 0;simp only[List.getElem?_toArray,List.getElem?_cons_zero]at cs;have r5:=(Bj (v:=v) (show 5 ∉ ([17,18,19,20,24]:List Nat) by decide)).trans h5;have he : execOp (Aq a [17, 18, 19, 20, 24] v).eval Vj = execOp (Act.eval ⟨#[undef], []⟩) ⟨some 0, .load 25 (.const (.pointer (some ⟨A, 0, none⟩))), 0, "", #[], none⟩ := by simp only[execOp, Af, Vj, r5]
  refine Df.mk ?_;unfold Oper.wp;rw[he];clear he;go_simp;exact hK.out _ _ (Bm.next (W:=W) hv 2 (.agg #[(.slice sa n sc)]) (Az 2 hnd rfl) (fun _ _ h=>h) ⟨fun e=>by omega,fun e=>by omega,fun _ _=>rfl,fun e=>by omega⟩ (hg.keep (by decide) (by decide)))
 case o3 =>
  rintro Q' L _ W h0L hpre ⟨v,rfl,hv,hg⟩ K hK;obtain⟨v0,hv0,hrd,hJ'⟩:=id hg;have HCW:=HC W (hrd h0L) hJ'.ain;have r18:(Aq a [17,18,19,20,24] v).eval (.tmp 18)=_:=(Au 1 hnd rfl (by omega)).trans ((hv 1 (hpre 1 (by simp))).2.1 rfl);have r19:(Aq a [17,18,19,20,24] v).eval (.tmp 19)=_:=(Au 2 hnd rfl (by omega)).trans ((hv 2 (hpre 2 (by simp))).2.2.1 rfl rfl);have he : execOp (Aq a [17, 18, 19, 20, 24] v).eval Vk = execOp (Act.eval ⟨#[undef], []⟩) ⟨some 0, .call { callee := .value (.func 45), args := #[.const (.pointer (some ⟨p, 0, none⟩)), .const (.agg #[(.slice sa n sc)])], argTypes := #[65, 25] }, 0, "", #[], none⟩ := by simp only[execOp, Af, Vk, resolve, Eo, List.map_toArray, List.map_cons, List.map_nil, r18, r19]
  refine Df.mk ?_;unfold Oper.wp;rw[he];clear he;go_simp;refine HCW.mono ?_;rintro e W' hsp;have hpl:=(hrd h0L).lt;obtain⟨qa,qn,qc,e1⟩:∃ qa qn qc,e=.returned (.agg #[.slice qa qn qc]):=by obtain⟨qa,qn,qc,_,_,he,_⟩:=hsp;exact⟨qa,qn,qc,he⟩
  subst e1;obtain⟨cs,s1,s2,s3,s4⟩:=Sv hsp hpl;refine hK.out _ _ (Bm.nextL (W:=W) hv 3 (.agg #[.slice qa qn qc]) (Az 3 hnd rfl) (fun j y hj h=>h.keep (fun e=>by rw[e,h0L]at hj;cases hj)) ⟨fun e=>by omega,fun e=>by omega,fun e=>by omega,fun _=>⟨qa,qn,qc,cs,rfl,s2,s3,s4⟩⟩ ⟨v0,by simpa [Ef] using hv0,by simp[Ef],hJ'.grown s1⟩)
 case o4 =>
  rintro Q' L _ W h0L hpre ⟨v,rfl,hv,hg⟩ K hK;obtain⟨v0,hv0,hrd,hJ'⟩:=id hg;have cr:=Ab hJ'.r0 0;have fr:=Ag hJ'.r0 0;simp only[List.getElem?_toArray,List.getElem?_cons_zero]at cr;have HF:=Aa hJ'.store;have hLm:=hpre 3 (by simp);have hpw:=hJ'.hp;have r2:=(Bj (v:=v) (show 2 ∉ ([17,18,19,20,24]:List Nat) by decide)).trans h2;have r17:(Aq a [17,18,19,20,24] v).eval (.tmp 17)=_:=(Au 0 hnd rfl (by omega)).trans ((hv 0 (hpre 0 (by simp))).1 rfl);have he : execOp (Aq a [17, 18, 19, 20, 24] v).eval Vl = execOp (Act.eval ⟨#[undef], []⟩) ⟨some 0, .store 25 (.const (.pointer (some ⟨w.heap.size, 0, none⟩))) (.const (.agg #[(.slice sa n sc)])), 0, "", #[], none⟩ := by simp only[execOp, Af, Vl, r2, r17]
  refine Df.mk ?_;unfold Oper.wp;rw[he];clear he;go_simp;refine hK.out _ _ (Bm.next (W:=W) hv 4 undef (X3 4 hnd rfl (by omega)) (fun j y h=>h.keep (fun _ u cs h1 h2=>h1.far (h2 w.heap.size (by omega)) (C8 W w.heap.size 0 _))) ⟨fun e=>by omega,fun e=>by omega,fun e=>by omega,fun e=>by omega⟩ ⟨_,fun _=>rfl,fun e=>?_,HF.out⟩);have:(Ef L 4) 3=L 3:=by simp[Ef]
  rw[this,hLm]at e;cases e
 case o5 =>
  rintro Q' L _ W h0L hpre ⟨v,rfl,hv,hg⟩ K hK;obtain⟨v0,hv0,hrd,hJ'⟩:=id hg;obtain rfl:=hv0 (hpre 4 (by simp));obtain⟨qa,qn,qc,cs,em,s2,s3,s4⟩:=(hv 3 (hpre 3 (by simp))).2.2.2 rfl;have cr:=Ab hJ'.r1 0;have fr:=Ag hJ'.r1 0;simp only[List.getElem?_toArray,List.getElem?_cons_zero]at cr;have HF:=Aa (hJ'.fin s2 s4 s3);have r3:=(Bj (v:=v) (show 3 ∉ ([17,18,19,20,24]:List Nat) by decide)).trans h3;have r20:(Aq a [17,18,19,20,24] v).eval (.tmp 20)=_:=(Au 3 hnd rfl (by omega)).trans em;have he : execOp (Aq a [17, 18, 19, 20, 24] v).eval Vm = execOp (Act.eval ⟨#[undef], []⟩) ⟨some 0, .store 25 (.const (.pointer (some ⟨w.heap.size + 1, 0, none⟩))) (.const (.agg #[.slice qa qn qc])), 0, "", #[], none⟩ := by simp only[execOp, Af, Vm, r3, r20]
  refine Df.mk ?_;unfold Oper.wp;rw[he];clear he;go_simp;exact hK.out _ _ (NoPanic.normal (hQ v qa qn qc cs _ _ rfl HF.out))
theorem X4{A D:Nat}(hJ:Z8 w p A (.slice none 0 0) (.slice sa n sc) bs W0)(hr:Rd B W0 p kk)(HC:∀ W,Rd B W p kk→Aw W (.slice sa n sc) bs→Calls Tryz.prog 43 #[(.pointer (some ⟨p,0,none⟩))] W fun e w'=>Gk D B p kk W e w')(h2:a.eval (.tmp 2)=.pointer (some ⟨w.heap.size,0,none⟩))(h3:a.eval (.tmp 3)=.pointer (some ⟨w.heap.size+1,0,none⟩))(h4:a.eval (.tmp 4)=(.pointer (some ⟨p,0,none⟩)))(h5:a.eval (.tmp 5)=(.pointer (some ⟨A,0,none⟩)))(hsz:a.tmps.size=24)
  (hQ:∀ u b m c cs W' a',a'=Aq a [21,22,23,24] u→DvE w (.slice sa n sc) (.slice b m c) bs cs W'→Q .normal a' W'):(Code.region 5 Aiv.toArray true).wp Tryz.prog Q a W0:=by
 have hnd:([21,22,23,24]:List Nat).Nodup:=by decide
 refine Co [21,22,23,24] (DvF p 2 (.slice sa n sc)) (DvG w B p A kk 2 3 (.slice sa n sc) bs) 4 5 [0,1,2,3,4] (by kernel_rfl) rfl (by decide) (by kernel_rfl) ?h1 ⟨_,(fun h=>by cases h),fun _=>hr.below (Below.refl _ _).drew,hJ.below (Below.refl _ _).drew⟩ ?hall;case h1 =>
  intro i x W hi;exact⟨fun e=>by omega,fun e=>by omega,fun e=>by omega,fun e=>by omega⟩
 refine Am.consQ (o:=Vn) [] (by kernel_rfl) (by decide) (by kernel_rfl) rfl ?o0 (Am.consQ (o:=Vo) [] (by kernel_rfl) (by decide) (by kernel_rfl) rfl ?o1 (Am.consQ (o:=Vp) [1] (by kernel_rfl) (by decide) (by kernel_rfl) rfl ?o2 (Am.consQ (o:=Vq) [0,2,0] (by kernel_rfl) (by decide) (by kernel_rfl) rfl ?o3 (Am.lastQ (o:=Vr) [2,3,0,1,2,3] (by kernel_rfl) (by kernel_rfl) rfl ?o4))));case o0 =>
  rintro Q' L _ W h0L hpre ⟨v,rfl,hv,hg⟩ K hK;obtain⟨v0,hv0,hrd,hJ'⟩:=id hg;have cs:=Ab hJ'.ab 0;simp only[List.getElem?_toArray,List.getElem?_cons_zero]at cs;have r5:=(Bj (v:=v) (show 5 ∉ ([21,22,23,24]:List Nat) by decide)).trans h5;have he : execOp (Aq a [21, 22, 23, 24] v).eval Vn = execOp (Act.eval ⟨#[undef], []⟩) ⟨some 0, .load 25 (.const (.pointer (some ⟨A, 0, none⟩))), 0, "", #[], none⟩ := by simp only[execOp, Af, Vn, r5]
  refine Df.mk ?_;unfold Oper.wp;rw[he];clear he;go_simp;exact hK.out _ _ (Bm.next (W:=W) hv 0 (.agg #[(.slice sa n sc)]) (Az 0 hnd rfl) (fun _ _ h=>h) ⟨fun _=>rfl,fun e=>by omega,fun _ _=>rfl,fun e=>by omega⟩ (hg.keep (by decide) (by decide)))
 case o1 =>
  rintro Q' L _ W h0L hpre ⟨v,rfl,hv,hg⟩ K hK;have r4:=(Bj (v:=v) (show 4 ∉ ([21,22,23,24]:List Nat) by decide)).trans h4;have he : execOp (Aq a [21, 22, 23, 24] v).eval Vo = execOp (Act.eval ⟨#[undef], []⟩) ⟨some 0, .move (.const (.pointer (some ⟨p, 0, none⟩))), 0, "", #[], none⟩ := by simp only[execOp, Af, Vo, r4]
  refine Df.mk ?_;unfold Oper.wp;rw[he];clear he;go_simp;exact hK.out _ _ (Bm.next (W:=W) hv 1 (.pointer (some ⟨p,0,none⟩)) (Az 1 hnd rfl) (fun _ _ h=>h) ⟨fun e=>by omega,fun _=>rfl,fun e=>by omega,fun e=>by omega⟩ (hg.keep (by decide) (by decide)))
 case o2 =>
  rintro Q' L _ W h0L hpre ⟨v,rfl,hv,hg⟩ K hK;obtain⟨v0,hv0,hrd,hJ'⟩:=id hg;have HCW:=HC W (hrd h0L) hJ'.ain;have r22:(Aq a [21,22,23,24] v).eval (.tmp 22)=_:=(Au 1 hnd rfl (by omega)).trans ((hv 1 (hpre 1 (by simp))).2.1 rfl);have he : execOp (Aq a [21, 22, 23, 24] v).eval Vp = execOp (Act.eval ⟨#[undef], []⟩) ⟨some 0, .call { callee := .value (.func 43), args := #[.const (.pointer (some ⟨p, 0, none⟩))], argTypes := #[65] }, 0, "", #[], none⟩ := by simp only[execOp, Af, Vp, resolve, Eo, List.map_toArray, List.map_cons, List.map_nil, r22]
  refine Df.mk ?_;unfold Oper.wp;rw[he];clear he;go_simp;refine HCW.mono ?_;rintro e W' hsp;have hpl:=(hrd h0L).lt;obtain⟨qa,qn,qc,e1⟩:∃ qa qn qc,e=.returned (.agg #[.slice qa qn qc]):=by obtain⟨qa,qn,qc,_,_,he,_⟩:=hsp;exact⟨qa,qn,qc,he⟩
  subst e1;obtain⟨cs,s1,s2,s3,s4⟩:=Sv hsp hpl;refine hK.out _ _ (Bm.nextL (W:=W) hv 2 (.agg #[.slice qa qn qc]) (Az 2 hnd rfl) (fun j y hj h=>h.keep (fun e=>by rw[e,h0L]at hj;cases hj)) ⟨fun e=>by omega,fun e=>by omega,fun e=>by omega,fun _=>⟨qa,qn,qc,cs,rfl,s2,s3,s4⟩⟩ ⟨v0,by simpa [Ef] using hv0,by simp[Ef],hJ'.grown s1⟩)
 case o3 =>
  rintro Q' L _ W h0L hpre ⟨v,rfl,hv,hg⟩ K hK;obtain⟨v0,hv0,hrd,hJ'⟩:=id hg;have cr:=Ab hJ'.r0 0;have fr:=Ag hJ'.r0 0;simp only[List.getElem?_toArray,List.getElem?_cons_zero]at cr;have HF:=Aa hJ'.store;have hLm:=hpre 2 (by simp);have hpw:=hJ'.hp;have r2:=(Bj (v:=v) (show 2 ∉ ([21,22,23,24]:List Nat) by decide)).trans h2;have r21:(Aq a [21,22,23,24] v).eval (.tmp 21)=_:=(Au 0 hnd rfl (by omega)).trans ((hv 0 (hpre 0 (by simp))).1 rfl);have he : execOp (Aq a [21, 22, 23, 24] v).eval Vq = execOp (Act.eval ⟨#[undef], []⟩) ⟨some 0, .store 25 (.const (.pointer (some ⟨w.heap.size, 0, none⟩))) (.const (.agg #[(.slice sa n sc)])), 0, "", #[], none⟩ := by simp only[execOp, Af, Vq, r2, r21]
  refine Df.mk ?_;unfold Oper.wp;rw[he];clear he;go_simp;refine hK.out _ _ (Bm.next (W:=W) hv 3 undef (X3 3 hnd rfl (by omega)) (fun j y h=>h.keep (fun _ u cs h1 h2=>h1.far (h2 w.heap.size (by omega)) (C8 W w.heap.size 0 _))) ⟨fun e=>by omega,fun e=>by omega,fun e=>by omega,fun e=>by omega⟩ ⟨_,fun _=>rfl,fun e=>?_,HF.out⟩);have:(Ef L 3) 2=L 2:=by simp[Ef]
  rw[this,hLm]at e;cases e
 case o4 =>
  rintro Q' L _ W h0L hpre ⟨v,rfl,hv,hg⟩ K hK;obtain⟨v0,hv0,hrd,hJ'⟩:=id hg;obtain rfl:=hv0 (hpre 3 (by simp));obtain⟨qa,qn,qc,cs,em,s2,s3,s4⟩:=(hv 2 (hpre 2 (by simp))).2.2.2 rfl;have cr:=Ab hJ'.r1 0;have fr:=Ag hJ'.r1 0;simp only[List.getElem?_toArray,List.getElem?_cons_zero]at cr;have HF:=Aa (hJ'.fin s2 s4 s3);have r3:=(Bj (v:=v) (show 3 ∉ ([21,22,23,24]:List Nat) by decide)).trans h3;have r23:(Aq a [21,22,23,24] v).eval (.tmp 23)=_:=(Au 2 hnd rfl (by omega)).trans em;have he : execOp (Aq a [21, 22, 23, 24] v).eval Vr = execOp (Act.eval ⟨#[undef], []⟩) ⟨some 0, .store 25 (.const (.pointer (some ⟨w.heap.size + 1, 0, none⟩))) (.const (.agg #[.slice qa qn qc])), 0, "", #[], none⟩ := by simp only[execOp, Af, Vr, r3, r23]
  refine Df.mk ?_;unfold Oper.wp;rw[he];clear he;go_simp;exact hK.out _ _ (NoPanic.normal (hQ v qa qn qc cs _ _ rfl HF.out))
theorem DvE.two{a b:Option Addr}{cs:List BAt}(h:DvE w (.slice a n c) (.slice b m d) bs cs W)(hs:A2 bs):Mw w (.returned (.tuple #[.agg #[.slice a n c],.agg #[.slice b m d]])) W :=
 ⟨a,n,c,b,m,d,bs.map BAt.plain,cs.map BAt.plain,rfl,⟨⟨bs,rfl,h.2.2.2.1,hs⟩,⟨cs,rfl,h.2.2.2.2.1,h.2.2.2.2.2⟩⟩,h.1⟩
theorem Mx(a:Option Addr)(len cap:Nat)(w:World)(hc:Code w.heap.size w a len cap):Calls Tryz.prog 10 #[.slice a len cap] w fun e w'=>Mw w e w':=by
 have b0:Below w.heap.size w ((w.alloc (.cells #[.slice none 0 0] 25)).alloc (.cells #[.slice none 0 0] 25)):=((Below.refl w.heap.size w).alloc (Nat.le_refl _) _).alloc (by simp) _;have s1:((w.alloc (.cells #[.slice none 0 0] 25)).alloc (.cells #[.slice none 0 0] 25)).heap.size=w.heap.size+2:=by simp
 have z0:((w.alloc (.cells #[.slice none 0 0] 25)).alloc (.cells #[.slice none 0 0] 25)).heap[w.heap.size]?=some (.cells #[.slice none 0 0] 25 (0,0)):=by
  have b1:=(Below.refl (w.alloc (.cells #[.slice none 0 0] 25)).heap.size (w.alloc (.cells #[.slice none 0 0] 25))).alloc (Nat.le_refl _) (.cells #[.slice none 0 0] 25);rw[b1.block w.heap.size (by simp)];exact Al w _
 have z1:((w.alloc (.cells #[.slice none 0 0] 25)).alloc (.cells #[.slice none 0 0] 25)).heap[w.heap.size+1]?=some (.cells #[.slice none 0 0] 25 (0,0)):=by
  have:=Al (w.alloc (.cells #[.slice none 0 0] 25)) (.cells #[.slice none 0 0] 25);rw[World.size_alloc]at this;exact this
 have hc1:=hc.below b0 (show w.heap.size≤w.heap.size+2 by omega);generalize hw1:(w.alloc (.cells #[.slice none 0 0] 25)).alloc (.cells #[.slice none 0 0] 25)=w1 at *;have HO:=Qr (w.heap.size+2) a len cap w1 (by omega) hc1.1 hc1.2.1 hc1.2.2.1 hc1.2.2.2;rw[s1]at HO;clear hc hc1;go_enter Tryz.func10,Tryz.ntmps10;go_wp2_with (go_at_call 42;(try rw[hw1]);refine HO.mono ?_)
 rintro e w2 ⟨rfl,h2,b2⟩;have HA:=Nv _ _ 0 w2 h2 (by omega);have hz2:=b2.size;have y0:=(b2.block w.heap.size (by omega)).trans z0;have y1:=(b2.block (w.heap.size+1) (by omega)).trans z1;have b02:=b0.trans (b2.mono (by omega));have hpl:=h2.lt;clear HO h2 hw1 z0 z1 b0 b2;go_wp2_with (go_at_call 43;refine HA.mono ?_)
 rintro e w3 ⟨sa,n,sc,bs,k3,rfl,hk3,hr3,hg3,hin3,⟨hs3,hl3⟩,hf3⟩;have hg3z:=hg3.size;have bx:=(Below.refl w3.heap.size w3).alloc (Nat.le_refl _) (.cells #[.slice sa n sc] 25);have xb:=Al w3 (.cells #[.slice sa n sc] 25);have hJ:Z8 w (w.heap.size+2) w3.heap.size (.slice none 0 0) (.slice sa n sc) bs (w3.alloc (.cells #[.slice sa n sc] 25)):=by
  have hb3:=Bu b02 b02.size (show w.heap.size≤w.heap.size+2 by omega) hg3;refine⟨hb3.trans (bx.mono hb3.size),?_,?_,xb,hin3.below bx,fun q hq=>hf3 q (by omega),Nat.le_refl _,by omega⟩
  ·rw[bx.block _ (by omega),hg3.block _ (by omega) (by intro e;have:=Option.some.inj e;omega)];exact y0
  ·rw[bx.block _ (by omega),hg3.block _ (by omega) (by intro e;have:=Option.some.inj e;omega)];exact y1
 have hr4:=hr3.below bx;have HPK:=Bn _ _ k3 2 _ hr4 (by omega) (by omega) (by omega);have HJH:=Aa hJ;have HS3:=Aa hs3;clear HA hJ hr3 hr4 hg3 hin3 hs3 hf3 bx xb y0 y1 b02;generalize hw4:w3.alloc (.cells #[.slice sa n sc] 25)=w4 at *;generalize hA:w3.heap.size=A at *;go_upto_region 3 with fail
 (try rw[hw4])
 go_wp2_with (go_at_call 44;refine HPK.mono ?_)
 rintro e w5 ⟨y,hy,rfl,hr5,hg5⟩;have hJ5:=HJH.out.grown hg5;have cA:=Ab hJ5.ab 0;simp only[List.getElem?_toArray,List.getElem?_cons_zero]at cA;have HJ5:=Aa hJ5;have HR5:=Aa hr5;clear HPK HJH hr5 hg5 hw4 hA;by_cases hy0:y=0
 ·subst hy0;have HV:=C6 hJ5.ain HS3.out;have hok:=hJ5.ain;clear hJ5;cases hv:Ca (bs.map BAt.plain)
  ·rw[hv]at HV;clear hok;go_wp2_with (go_at_call 14;refine HV.mono ?_)
   first | rintro e w6 rfl b6 | rintro e w6 ⟨rfl,b6⟩
   have HJ6:=Aa (HJ5.out.below b6);have HR6:=Aa (HR5.out.below b6);clear HV HJ5 HR5 b6 cA;go_upto_region 5 with fail
   refine X4 HJ6.out HR6.out (fun W hr _=>Nv _ _ _ W hr (by omega)) (by kernel_rfl) (by kernel_rfl) (by kernel_rfl) (by kernel_rfl) (by kernel_rfl) ?_;intro u b m c cs W' a' ha' hE;simp only[Aq,Fb,List.setIfInBounds_toArray,List.set_cons_zero,List.set_cons_succ]at ha';subst ha';have t0:=hE.2.1;have t1:=hE.2.2.1;go_wp2;exact bodyPost_ret (v:=.tuple #[.agg #[.slice sa n sc],.agg #[.slice b m c]]) (by simp[results,Tryz.results10,go_sem,t0,t1]) rfl (hE.two HS3.out)
  ·rw[hv]at HV;have h1k:∀ b∈bs,b.ls.length≤1000:=Acr hv;have HK:=Aa h1k;clear hok h1k;go_wp2_with (go_at_call 14;refine HV.mono ?_)
   first | rintro e w6 rfl b6 | rintro e w6 ⟨rfl,b6⟩
   have HJ6:=Aa (HJ5.out.below b6);have HR6:=Aa (HR5.out.below b6);clear HV HJ5 HR5 b6 cA;go_upto_region 4 with fail
   refine Ae1 HJ6.out HR6.out (fun W hr hin=>Z1 _ _ _ W hr (by omega) hin (HJ6.out.far _ (Nat.le_refl _)) HS3.out hl3 HK.out) (by kernel_rfl) (by kernel_rfl) (by kernel_rfl) (by kernel_rfl) (by kernel_rfl) ?_;intro u b m c cs W' a' ha' hE;simp only[Aq,Fb,List.setIfInBounds_toArray,List.set_cons_zero,List.set_cons_succ]at ha';subst ha';have t0:=hE.2.1;have t1:=hE.2.2.1;go_wp2;exact bodyPost_ret (v:=.tuple #[.agg #[.slice sa n sc],.agg #[.slice b m c]]) (by simp[results,Tryz.results10,go_sem,t0,t1]) rfl (hE.two HS3.out)
 ·have hyn:((y:Int) == 0)=false:=by rw[beq_eq_false_iff_ne];omega
  clear hJ5;go_upto_region 5 with fail
  refine X4 HJ5.out HR5.out (fun W hr _=>Nv _ _ _ W hr (by omega)) (by kernel_rfl) (by kernel_rfl) (by kernel_rfl) (by kernel_rfl) (by kernel_rfl) ?_;intro u b m c cs W' a' ha' hE;simp only[Aq,Fb,List.setIfInBounds_toArray,List.set_cons_zero,List.set_cons_succ]at ha';subst ha';have t0:=hE.2.1;have t1:=hE.2.2.1;go_wp2;exact bodyPost_ret (v:=.tuple #[.agg #[.slice sa n sc],.agg #[.slice b m c]]) (by simp[results,Tryz.results10,go_sem,t0,t1]) rfl (hE.two HS3.out)
end Go.Proofs.YtpdahhnjhggocaaGreatDoor
