import Derived.Test.YtpdahhnjhggocaaGreatDoorMz31
import Derived.Test.YtpdahhnjhggocaaGreatDoorMz34
namespace Go.Proofs.YtpdahhnjhggocaaGreatDoor
open Go.RowKit
set_option maxHeartbeats 16000000
set_option maxRecDepth 100000
variable {Q:Exit → Act → World → Prop}{a:Act}{W0 w1:World}{B p c X Y nl yc nI nw xc g n kk:Nat}{D T:List BAt}{yk yn xk:ByteArray}{E:List LAt}{xa:Option Addr}
theorem Ve{l:Nat}{A:List LAt}{xw:List (List UInt8)}{cap:Nat}(hJ:St B p c X Y w1 D T ⟨yk,yn,.slice (some ⟨l,0,none⟩) nl yc,A++⟨xk,.slice xa nw xc,xw⟩::E⟩ g n cap yk yn kk W0)(hA:A.length=nI)(hn:(A++⟨xk,.slice xa nw xc,xw⟩::E).length=nl)(hn7:nl≤1000)(hc:c≤W0.heap.size)(h7:a.eval (.tmp 7)=.pointer (some ⟨Y,0,none⟩))(h8:a.eval (.tmp 8)=.int .i64 (nI:Int))(hsz:a.tmps.size=199)
  (hQ:∀ v W' a' x,a'=Aq a [136,137,138,139,140,141,142,143,144,145] v→(∃ o m cc,x=.slice o m cc)→Im B p c X Y w1 D T ⟨yk,yn,.slice (some ⟨l,0,none⟩) nl yc,A++⟨xk,.slice xa nw xc,xw⟩::E⟩ g n cap kk yk yn x (A++⟨xk,.slice xa nw xc,xw⟩::E++[⟨xk,.slice xa nw xc,xw⟩]) W'→Q .normal a' W'):(Code.region 26 Aiq.toArray true).wp Tryz.prog Q a W0:=by
 have hnd:([136,137,138,139,140,141,142,143,144,145]:List Nat).Nodup:=by decide
 have hIn:nI<nl:=by rw[← hn,← hA];simp
 have i3:(0:Int)≤(nI:Int):=by omega
 have i4:(nI:Int)<(nl:Int):=by omega
 have hl7:l<W0.heap.size:=((hJ.2.lines ⟨yk,yn,.slice (some ⟨l,0,none⟩) nl yc,A++⟨xk,.slice xa nw xc,xw⟩::E⟩ (by simp)).row.lt l rfl).2;have hlY:l≠Y:=Hy (hJ.1.mine.1.2.1 Y (by simp)).1 (by simp only;omega);have hY7:Y<W0.heap.size:=(Array.getElem?_eq_some_iff.1 hJ.1.yb).1;obtain⟨i0,hi,hz0,hz1,hz2⟩:=info_parts Ez;refine Co [136,137,138,139,140,141,142,143,144,145] (Xs Y l nI nl yc xk (.slice xa nw xc) (fun v W=>Im B p c X Y w1 D T ⟨yk,yn,.slice (some ⟨l,0,none⟩) nl yc,A++⟨xk,.slice xa nw xc,xw⟩::E⟩ g n cap kk yk yn v (A++⟨xk,.slice xa nw xc,xw⟩::E++[⟨xk,.slice xa nw xc,xw⟩]) (W.setCell ⟨Y,2,none⟩ v))) (Ai5 Y yk yn (.slice (some ⟨l,0,none⟩) nl yc) (fun W=>St B p c X Y w1 D T ⟨yk,yn,.slice (some ⟨l,0,none⟩) nl yc,A++⟨xk,.slice xa nw xc,xw⟩::E⟩ g n cap yk yn kk W∧W0.heap.size≤W.heap.size)) 10 11 [0,1,2,3,4,5,6,7,8,9,10] (by kernel_rfl) rfl (by decide) (by kernel_rfl) ?h1 ⟨hJ.1.yb,fun _=>⟨hJ.below (Below.refl _ _).drew,Nat.le_refl _⟩,(fun h=>by cases h),(fun h=>by cases h)⟩ ?hall;case h1 =>
  intro i x W hi;unfold Xs;split <;> first | omega | trivial
 refine Am.consQ (o:=Us) [] (by kernel_rfl) (by decide) (by kernel_rfl) rfl ?o0 (Am.consQ (o:=Ut) [0] (by kernel_rfl) (by decide) (by kernel_rfl) rfl ?o1 (Am.consQ (o:=Uu) [] (by kernel_rfl) (by decide) (by kernel_rfl) rfl ?o2 (Am.consQ (o:=Uv) [2] (by kernel_rfl) (by decide) (by kernel_rfl) rfl ?o3 (Am.consQ (o:=Uw) [] (by kernel_rfl) (by decide) (by kernel_rfl) rfl ?o4 (Am.consQ (o:=Ux) [3,4] (by kernel_rfl) (by decide) (by kernel_rfl) rfl ?o5 (Am.consQ (o:=Uy) [5] (by kernel_rfl) (by decide) (by kernel_rfl) rfl ?o6 (Am.consQ (o:=Uz) [6] (by kernel_rfl) (by decide) (by kernel_rfl) rfl ?o7 (Am.consQ (o:=Aer) [1,7] (by kernel_rfl) (by decide) (by kernel_rfl) rfl ?o8 (Am.consQ (o:=U0) [0,1,2,3,4,5,6,7,8] (by kernel_rfl) (by decide) (by kernel_rfl) rfl ?o9 (Am.lastQ (o:=Pc) [9,8,8,0,1,2,3,4,5,6,7,8] (by kernel_rfl) (by kernel_rfl) rfl ?o10))))))))));case o0 =>
  rintro Q' L _ W h0L hpre ⟨v,rfl,hv,hY,hJ8,h87,h76⟩ K hK;have r7:=(Bj (v:=v) (show 7 ∉ ([136,137,138,139,140,141,142,143,144,145]:List Nat) by decide)).trans h7;have he : execOp (Aq a [136, 137, 138, 139, 140, 141, 142, 143, 144, 145] v).eval Us = execOp (Act.eval ⟨#[undef], []⟩) ⟨some 0, .fieldAddr 46 (.const (.pointer (some ⟨Y, 0, none⟩))) 2, 0, "", #[], none⟩ := by simp only[execOp, Af, Us, r7]
  refine Df.mk ?_;unfold Oper.wp;rw[he];clear he;go_simp;exact hK.out _ _ (Bm.nextL (W:=W) hv 0 (.pointer (some ⟨Y,2,none⟩)) (Az 0 hnd rfl) (fun _ _ _ h=>h) rfl ⟨hY,by simpa [Ef] using hJ8,by simpa [Ef] using h87,by simpa [Ef] using h76⟩)
 case o1 =>
  rintro Q' L _ W h0L hpre ⟨v,rfl,hv,hY,hJ8,h87,h76⟩ K hK;have cy:=Ab hY 2;simp only[List.getElem?_toArray,List.getElem?_cons_zero,List.getElem?_cons_succ]at cy;have r136:(Aq a [136,137,138,139,140,141,142,143,144,145] v).eval (.tmp 136)=_:=(Au 0 hnd rfl (by omega)).trans (hv 0 (hpre 0 (by simp)));have he : execOp (Aq a [136, 137, 138, 139, 140, 141, 142, 143, 144, 145] v).eval Ut = execOp (Act.eval ⟨#[undef], []⟩) ⟨some 0, .load 44 (.const (.pointer (some ⟨Y, 2, none⟩))), 0, "", #[], none⟩ := by simp only[execOp, Af, Ut, r136]
  refine Df.mk ?_;unfold Oper.wp;rw[he];clear he;go_simp;exact hK.out _ _ (Bm.nextL (W:=W) hv 1 (.slice (some ⟨l,0,none⟩) nl yc) (Az 1 hnd rfl) (fun _ _ _ h=>h) rfl ⟨hY,by simpa [Ef] using hJ8,by simpa [Ef] using h87,by simpa [Ef] using h76⟩)
 case o2 =>
  rintro Q' L _ W h0L hpre ⟨v,rfl,hv,hY,hJ8,h87,h76⟩ K hK;have r7:=(Bj (v:=v) (show 7 ∉ ([136,137,138,139,140,141,142,143,144,145]:List Nat) by decide)).trans h7;have he : execOp (Aq a [136, 137, 138, 139, 140, 141, 142, 143, 144, 145] v).eval Uu = execOp (Act.eval ⟨#[undef], []⟩) ⟨some 0, .fieldAddr 46 (.const (.pointer (some ⟨Y, 0, none⟩))) 2, 0, "", #[], none⟩ := by simp only[execOp, Af, Uu, r7]
  refine Df.mk ?_;unfold Oper.wp;rw[he];clear he;go_simp;exact hK.out _ _ (Bm.nextL (W:=W) hv 2 (.pointer (some ⟨Y,2,none⟩)) (Az 2 hnd rfl) (fun _ _ _ h=>h) rfl ⟨hY,by simpa [Ef] using hJ8,by simpa [Ef] using h87,by simpa [Ef] using h76⟩)
 case o3 =>
  rintro Q' L _ W h0L hpre ⟨v,rfl,hv,hY,hJ8,h87,h76⟩ K hK;have cy:=Ab hY 2;simp only[List.getElem?_toArray,List.getElem?_cons_zero,List.getElem?_cons_succ]at cy;have r138:(Aq a [136,137,138,139,140,141,142,143,144,145] v).eval (.tmp 138)=_:=(Au 2 hnd rfl (by omega)).trans (hv 2 (hpre 2 (by simp)));have he : execOp (Aq a [136, 137, 138, 139, 140, 141, 142, 143, 144, 145] v).eval Uv = execOp (Act.eval ⟨#[undef], []⟩) ⟨some 0, .load 44 (.const (.pointer (some ⟨Y, 2, none⟩))), 0, "", #[], none⟩ := by simp only[execOp, Af, Uv, r138]
  refine Df.mk ?_;unfold Oper.wp;rw[he];clear he;go_simp;exact hK.out _ _ (Bm.nextL (W:=W) hv 3 (.slice (some ⟨l,0,none⟩) nl yc) (Az 3 hnd rfl) (fun _ _ _ h=>h) rfl ⟨hY,by simpa [Ef] using hJ8,by simpa [Ef] using h87,by simpa [Ef] using h76⟩)
 case o4 =>
  rintro Q' L _ W h0L hpre ⟨v,rfl,hv,hY,hJ8,h87,h76⟩ K hK;have r8:=(Bj (v:=v) (show 8 ∉ ([136,137,138,139,140,141,142,143,144,145]:List Nat) by decide)).trans h8;have he : execOp (Aq a [136, 137, 138, 139, 140, 141, 142, 143, 144, 145] v).eval Uw = execOp (Act.eval ⟨#[undef], []⟩) ⟨some 0, .move (.const (.int .i64 (nI : Int))), 0, "", #[], none⟩ := by simp only[execOp, Af, Uw, r8]
  refine Df.mk ?_;unfold Oper.wp;rw[he];clear he;go_simp;exact hK.out _ _ (Bm.nextL (W:=W) hv 4 (.int .i64 (nI:Int)) (Az 4 hnd rfl) (fun _ _ _ h=>h) rfl ⟨hY,by simpa [Ef] using hJ8,by simpa [Ef] using h87,by simpa [Ef] using h76⟩)
 case o5 =>
  rintro Q' L _ W h0L hpre ⟨v,rfl,hv,hY,hJ8,h87,h76⟩ K hK;have r139:(Aq a [136,137,138,139,140,141,142,143,144,145] v).eval (.tmp 139)=_:=(Au 3 hnd rfl (by omega)).trans (hv 3 (hpre 3 (by simp)));have r140:(Aq a [136,137,138,139,140,141,142,143,144,145] v).eval (.tmp 140)=_:=(Au 4 hnd rfl (by omega)).trans (hv 4 (hpre 4 (by simp)));have he : execOp (Aq a [136, 137, 138, 139, 140, 141, 142, 143, 144, 145] v).eval Ux = execOp (Act.eval ⟨#[undef], []⟩) ⟨some 0, .indexAddr 44 (.const (.slice (some ⟨l, 0, none⟩) nl yc)) (.const (.int .i64 (nI : Int))), 0, "", #[], none⟩ := by simp only[execOp, Af, Ux, r139, r140]
  refine Df.mk ?_;unfold Oper.wp;rw[he];clear he;go_simp;exact hK.out _ _ (Bm.nextL (W:=W) hv 5 (.pointer (some ⟨l,nI * 2,none⟩)) (Az 5 hnd rfl) (fun _ _ _ h=>h) rfl ⟨hY,by simpa [Ef] using hJ8,by simpa [Ef] using h87,by simpa [Ef] using h76⟩)
 case o6 =>
  rintro Q' L _ W h0L hpre ⟨v,rfl,hv,hY,hJ8,h87,h76⟩ K hK;have n7:L 7=false:=by
   cases e:L 7
   ·rfl
   ·have:=h76 e;rw[h0L]at this;cases this
  have n8:L 8=false:=by
   cases e:L 8
   ·rfl
   ·have:=h87 e;rw[n7]at this;cases this
  have hJ':=(hJ8 n8).1;have cl0:=hJ'.2.bm.lines.cell 0 (by decide);have cl1:=hJ'.2.bm.lines.cell 1 (by decide);simp only[LAt.cells,List.getElem?_cons_zero,List.getElem?_cons_succ,Nat.add_zero,hA]at cl0 cl1;have r141:(Aq a [136,137,138,139,140,141,142,143,144,145] v).eval (.tmp 141)=_:=(Au 5 hnd rfl (by omega)).trans (hv 5 (hpre 5 (by simp)));have he : execOp (Aq a [136, 137, 138, 139, 140, 141, 142, 143, 144, 145] v).eval Uy = execOp (Act.eval ⟨#[undef], []⟩) ⟨some 0, .load 115 (.const (.pointer (some ⟨l, nI * 2, none⟩))), 0, "", #[], none⟩ := by simp only[execOp, Af, Uy, r141]
  refine Df.mk ?_;unfold Oper.wp;rw[he];clear he;go_simp;exact hK.out _ _ (Bm.nextL (W:=W) hv 6 (.agg #[.string xk,.slice xa nw xc]) (Az 6 hnd rfl) (fun _ _ _ h=>h) rfl ⟨hY,by simpa [Ef] using hJ8,by simpa [Ef] using h87,by simp[Ef]⟩)
 case o7 =>
  rintro Q' L _ W h0L hpre ⟨v,rfl,hv,hY,hJ8,h87,h76⟩ K hK;have n7:L 7=false:=h0L;have n8:L 8=false:=by
   cases e:L 8
   ·rfl
   ·have:=h87 e;rw[n7]at this;cases this
  have hJ':=hJ8 n8;have r142:(Aq a [136,137,138,139,140,141,142,143,144,145] v).eval (.tmp 142)=_:=(Au 6 hnd rfl (by omega)).trans (hv 6 (hpre 6 (by simp)));have he : execOp (Aq a [136, 137, 138, 139, 140, 141, 142, 143, 144, 145] v).eval Uz = execOp (Act.eval ⟨#[undef], []⟩) ⟨some 0, .buildSlice 44 1 #[(0, .const (.agg #[.string xk, .slice xa nw xc]))], 0, "", #[], none⟩ := by simp only[execOp, Af, Uz, r142, List.map_toArray, List.map_cons, List.map_nil]
  refine Df.mk ?_;unfold Oper.wp;rw[he];clear he;go_simp;exact hK.out _ _ (Bm.nextL (W:=W) hv 7 (.slice (some ⟨W.heap.size,0,none⟩) 1 1) (Az 7 hnd rfl) (fun j y hj h=>Xs.keep (Cv.alloc _ _ _) j y (fun e=>by rw[e,n8]at hj;cases hj) h) ⟨_,rfl,by omega,Al _ _⟩ ⟨by rw[Cy _ _ _ (by omega)];exact hY,fun _=>⟨hJ'.1.below ((Below.refl _ _).alloc (Nat.le_refl _) _),by rw[World.size_alloc];omega⟩,(fun h=>by simp[Ef]),(fun h=>by simp[Ef,hpre 6 (by simp)])⟩)
 case o8 =>
  rintro Q' L _ W h0L hpre ⟨v,rfl,hv,hY,hJ8,h87,h76⟩ K hK;obtain⟨t,e7,ht,hh⟩:=hv 7 (hpre 7 (by simp));have r137:(Aq a [136,137,138,139,140,141,142,143,144,145] v).eval (.tmp 137)=_:=(Au 1 hnd rfl (by omega)).trans (hv 1 (hpre 1 (by simp)));have r143:(Aq a [136,137,138,139,140,141,142,143,144,145] v).eval (.tmp 143)=_:=(Au 7 hnd rfl (by omega)).trans e7;have hJ':=hJ8 h0L;have hrow:=hJ'.1.2.bm.lines.size hn;have hlit:An W (.slice (some ⟨t,0,none⟩) 1 1) 1 2 [.string xk,.slice xa nw xc]:=⟨rfl,_,_,rfl,⟨Nat.le_refl _,by unfold maxLen;omega⟩,.inr ⟨t,0,rfl,fun j u hj=>by rw[Nat.zero_add,Ab hh j];simpa using hj⟩⟩;refine Df.mk ?_;exact I6 (.tmp 137) (.tmp 143) 44 rfl c 115 i0 _ 2 40 Tryz.underlying44 hi hz0 hz1 hz2 rfl (by decide) _ nl _ r137 hrow _ 1 _ r143 hlit (by intro z hz;simp at hz;rcases hz with rfl | rfl <;> rfl) (by unfold maxLen;omega) (by omega) (by omega) (fun ao cap9 W9 own9 hg9 hv9=>by
   have hgl:W.grownBy W9 (some l):=hg9;obtain⟨a9,rfl⟩:∃ a9,ao=some ⟨a9,0,none⟩:=Lz own9 (by omega);have happ:=hJ'.1.1.app (l:=l) (v':=.slice (some ⟨a9,0,none⟩) (nl+1) cap9) (ls':=A++⟨xk,.slice xa nw xc,xw⟩::E++[⟨xk,.slice xa nw xc,xw⟩]) hJ'.1.2 rfl (by simp only;omega) hgl (by
    have e1:(A++(⟨xk,.slice xa nw xc,xw⟩:LAt)::E++[(⟨xk,.slice xa nw xc,xw⟩:LAt)]).length=nl+1:=by rw[List.length_append,hn];rfl
    have e2:(A++(⟨xk,.slice xa nw xc,xw⟩:LAt)::E++[(⟨xk,.slice xa nw xc,xw⟩:LAt)]).flatMap LAt.cells=(A++(⟨xk,.slice xa nw xc,xw⟩:LAt)::E).flatMap LAt.cells++[.string xk,.slice xa nw xc]:=by rw[List.flatMap_append];rfl
    rw[e1,e2];exact own9) hv9 (fun z hz=>by
     rcases List.mem_append.1 hz with h | h
     ·exact h
     ·rw[List.mem_singleton.1 h];simp) (by rw[List.length_append,hn];simp only[List.length_singleton];omega)
   exact hK.out _ _ (Bm.nextL (W:=W) hv 8 (.slice (some ⟨a9,0,none⟩) (nl+1) cap9) (Az 8 hnd rfl) (fun j y hj h=>Xs.keep (Cv.grown hgl) j y (fun e=>by rw[e,h0L]at hj;cases hj) h) ⟨_,_,rfl,happ⟩ ⟨(hgl.block Y (by omega) (by intro e;cases e;exact hlY rfl)).trans hY,(fun h=>by simp[Ef]at h),(fun h=>by simp[Ef,hpre 7 (by simp)]),by simpa [Ef] using h76⟩))
 case o9 =>
  rintro Q' L _ W h0L hpre ⟨v,rfl,hv,hY,hJ8,h87,h76⟩ K hK;have r7:=(Bj (v:=v) (show 7 ∉ ([136,137,138,139,140,141,142,143,144,145]:List Nat) by decide)).trans h7;have he : execOp (Aq a [136, 137, 138, 139, 140, 141, 142, 143, 144, 145] v).eval U0 = execOp (Act.eval ⟨#[undef], []⟩) ⟨some 0, .fieldAddr 46 (.const (.pointer (some ⟨Y, 0, none⟩))) 2, 0, "", #[], none⟩ := by simp only[execOp, Af, U0, r7]
  refine Df.mk ?_;unfold Oper.wp;rw[he];clear he;go_simp;exact hK.out _ _ (Bm.nextL (W:=W) hv 9 (.pointer (some ⟨Y,2,none⟩)) (Az 9 hnd rfl) (fun _ _ _ h=>h) rfl ⟨hY,by simpa [Ef] using hJ8,by simpa [Ef] using h87,by simpa [Ef] using h76⟩)
 case o10 =>
  rintro Q' L _ W h0L hpre ⟨v,rfl,hv,hY,hJ8,h87,h76⟩ K hK;obtain⟨a9,c9,e8,happ⟩:=hv 8 (hpre 8 (by simp));rw[e8]at happ;have r145:(Aq a [136,137,138,139,140,141,142,143,144,145] v).eval (.tmp 145)=_:=(Au 9 hnd rfl (by omega)).trans (hv 9 (hpre 9 (by simp)));have r144:(Aq a [136,137,138,139,140,141,142,143,144,145] v).eval (.tmp 144)=_:=(Au 8 hnd rfl (by omega)).trans e8;have cy:=Ab hY 2;simp only[List.getElem?_toArray,List.getElem?_cons_zero,List.getElem?_cons_succ]at cy;have fy:=Ag hY 2;have HQ:=Aa (hQ v _ _ _ rfl ⟨_,_,_,rfl⟩ happ);clear happ;have he : execOp (Aq a [136, 137, 138, 139, 140, 141, 142, 143, 144, 145] v).eval Pc = execOp (Act.eval ⟨#[undef], []⟩) ⟨some 0, .store 44 (.const (.pointer (some ⟨Y, 2, none⟩))) (.const (.slice (some ⟨a9, 0, none⟩) (nl + 1) c9)), 0, "", #[], none⟩ := by simp only[execOp, Af, Pc, r145, r144]
  refine Df.mk ?_;unfold Oper.wp;rw[he];clear he;go_simp;exact hK.out _ _ (NoPanic.normal HQ.out)
variable {W:World}
theorem Xu{cap:Nat}(J:Nat→World→Prop)(B:Nat)(hrd:∀ k W,J k W→Rd B W p k)(hx:∀ k W,J k W→W.cell? ⟨X,0,none⟩=some (.slice (some ⟨g,0,none⟩) n cap))(hgr:∀ k k' W W',J k W→W.grownBy W' (some p)→Rd B W' p k'→J k' W')(hdr:∀ k W,J k W→J k W.drew)(hJ:J kk W)(hk:kk≤900000)(hn61:n≤1000)(h0:a.eval (.tmp 0)=.pointer (some ⟨p,0,none⟩))(h5:a.eval (.tmp 5)=.pointer (some ⟨X,0,none⟩))(hsz:a.tmps.size=199)
  (hQ:∀ v b k' W' a',a'=Aq a [39,40,41,42,43,44,45] v→v 6=.bool b→(b=true→n≤60)→k'≤kk+1→J k' W'→Q .normal a' W'):(Code.region 9 Ai6.toArray true).wp Tryz.prog Q a W:=by
 have hnd:([39,40,41,42,43,44,45]:List Nat).Nodup:=by decide
 refine J1 [39,40,41,42,43,44,45] (fun i x _=>Ain p X g n cap i x) (Xr J 4 kk 1) 7 [0,1,2,3,4,5,6] (by kernel_rfl) rfl (by decide) (by kernel_rfl) ?h1 ⟨_,Nat.le_refl _,hdr _ _ hJ⟩ ?hall ?hend;case h1 =>
  intro i x W hi;unfold Ain;split <;> first | omega | trivial
 case hend =>
  intro v W' L hL hv hg;obtain⟨k',hk',hJ'⟩:=hg.get;obtain⟨b,e6,hb⟩:=hv 6;exact NoPanic.normal (hQ v b k' W' _ rfl e6 hb hk' hJ')
 refine Am.consQ (o:=Aa5) [] (by kernel_rfl) (by decide) (by kernel_rfl) rfl ?o0 (Am.consQ (o:=Aa6) [0] (by kernel_rfl) (by decide) (by kernel_rfl) rfl ?o1 (Am.consQ (o:=Aes) [1] (by kernel_rfl) (by decide) (by kernel_rfl) rfl ?o2 (Am.consQ (o:=Aa7) [] (by kernel_rfl) (by decide) (by kernel_rfl) rfl ?o3 (Am.consQ (o:=Aa8) [3] (by kernel_rfl) (by decide) (by kernel_rfl) rfl ?o4 (Am.consQ (o:=Aet) [4] (by kernel_rfl) (by decide) (by kernel_rfl) rfl ?o5 (Am.consQ (o:=Aeu) [2,5] (by kernel_rfl) (by decide) (by kernel_rfl) rfl ?o6 Am.nil))))));case o0 =>
  rintro Q' L _ W h0L hpre ⟨v,rfl,hv,hg⟩ K hK;have r5:=(Bj (v:=v) (show 5 ∉ ([39,40,41,42,43,44,45]:List Nat) by decide)).trans h5;have he : execOp (Aq a [39, 40, 41, 42, 43, 44, 45] v).eval Aa5 = execOp (Act.eval ⟨#[undef], []⟩) ⟨some 0, .fieldAddr 25 (.const (.pointer (some ⟨X, 0, none⟩))) 0, 0, "", #[], none⟩ := by simp only[execOp, Af, Aa5, r5]
  refine Df.mk ?_;unfold Oper.wp;rw[he];clear he;go_simp;exact hK.out _ _ (Bm.next (W:=W) hv 0 (.pointer (some ⟨X,0,none⟩)) (Az 0 hnd rfl) (fun _ _ h=>h) rfl (hg.keep (by decide) fun _ h=>h))
 case o1 =>
  rintro Q' L _ W h0L hpre ⟨v,rfl,hv,hg⟩ K hK;obtain⟨k',hk',hJ'⟩:=hg.get;have cy:=hx _ _ hJ';have r39:(Aq a [39,40,41,42,43,44,45] v).eval (.tmp 39)=_:=(Au 0 hnd rfl (by omega)).trans (hv 0 (hpre 0 (by simp)));have he : execOp (Aq a [39, 40, 41, 42, 43, 44, 45] v).eval Aa6 = execOp (Act.eval ⟨#[undef], []⟩) ⟨some 0, .load 23 (.const (.pointer (some ⟨X, 0, none⟩))), 0, "", #[], none⟩ := by simp only[execOp, Af, Aa6, r39]
  refine Df.mk ?_;unfold Oper.wp;rw[he];clear he;go_simp;exact hK.out _ _ (Bm.next (W:=W) hv 1 (.slice (some ⟨g,0,none⟩) n cap) (Az 1 hnd rfl) (fun _ _ h=>h) rfl (hg.keep (by decide) fun _ h=>h))
 case o2 =>
  rintro Q' L _ W h0L hpre ⟨v,rfl,hv,hg⟩ K hK;have r40:(Aq a [39,40,41,42,43,44,45] v).eval (.tmp 40)=_:=(Au 1 hnd rfl (by omega)).trans (hv 1 (hpre 1 (by simp)));refine Df.mk ?_;unfold Oper.wp;simp only[execOp,Aes,resolve,List.map_toArray,List.map_cons,List.map_nil,r40];go_simp;exact hK.out _ _ (Bm.next (W:=W) hv 2 (.int .i64 (n:Int)) (Az 2 hnd rfl) (fun _ _ h=>h) rfl (hg.keep (by decide) fun _ h=>h))
 case o3 =>
  rintro Q' L _ W h0L hpre ⟨v,rfl,hv,hg⟩ K hK;have r0:=(Bj (v:=v) (show 0 ∉ ([39,40,41,42,43,44,45]:List Nat) by decide)).trans h0;have he : execOp (Aq a [39, 40, 41, 42, 43, 44, 45] v).eval Aa7 = execOp (Act.eval ⟨#[undef], []⟩) ⟨some 0, .move (.const (.pointer (some ⟨p, 0, none⟩))), 0, "", #[], none⟩ := by simp only[execOp, Af, Aa7, r0]
  refine Df.mk ?_;unfold Oper.wp;rw[he];clear he;go_simp;exact hK.out _ _ (Bm.next (W:=W) hv 3 (.pointer (some ⟨p,0,none⟩)) (Az 3 hnd rfl) (fun _ _ h=>h) rfl (hg.keep (by decide) fun _ h=>h))
 case o4 =>
  rintro Q' L _ W h0L hpre ⟨v,rfl,hv,hg⟩ K hK;have r42:(Aq a [39,40,41,42,43,44,45] v).eval (.tmp 42)=_:=(Au 3 hnd rfl (by omega)).trans (hv 3 (hpre 3 (by simp)));obtain⟨k',hk',hJ'⟩:=hg.get0 h0L;have HP:=Bn B p k' 2 W (hrd _ _ hJ') (by omega) (by omega) (by omega);have he : execOp (Aq a [39, 40, 41, 42, 43, 44, 45] v).eval Aa8 = execOp (Act.eval ⟨#[undef], []⟩) ⟨some 0, .call { callee := .value (.func 44), args := #[.const (.pointer (some ⟨p, 0, none⟩)), .const (.int .i64 2)], argTypes := #[65, 3] }, 0, "", #[], none⟩ := by simp only[execOp, Af, Eo, Aa8, resolve, List.map_toArray, List.map_cons, List.map_nil, r42]
  refine Df.mk ?_;unfold Oper.wp;rw[he];clear he;go_simp;refine HP.mono ?_;rintro e W' ⟨y,hy,rfl,hr',hg'⟩;exact hK.out _ _ (Bm.next (W:=W) hv 4 (.int .i64 (y:Int)) (Az 4 hnd rfl) (fun _ _ h=>h) ⟨y,hy,rfl⟩ (Xr.put hk' (Nat.le_refl _) (hgr _ _ _ _ hJ' hg' hr')))
 case o5 =>
  rintro Q' L _ W h0L hpre ⟨v,rfl,hv,hg⟩ K hK;obtain⟨y,hy,e4⟩:=hv 4 (hpre 4 (by simp));have r43:(Aq a [39,40,41,42,43,44,45] v).eval (.tmp 43)=_:=(Au 4 hnd rfl (by omega)).trans e4;refine Df.mk ?_;unfold Oper.wp;simp only[execOp,Af,Aet,r43];go_simp;rw[show IntKind.i64.wrap (60+(y:Int))=60+(y:Int) by rw[IntKind.wrap_i64];omega];exact hK.out _ _ (Bm.next (W:=W) hv 5 (.int .i64 (60+(y:Int))) (Az 5 hnd rfl) (fun _ _ h=>h) ⟨y,hy,rfl⟩ (hg.keep (by decide) fun _ h=>h))
 case o6 =>
  rintro Q' L _ W h0L hpre ⟨v,rfl,hv,hg⟩ K hK;have e2:v 2=_:=hv 2 (hpre 2 (by simp));obtain⟨y,hy,e5⟩:=hv 5 (hpre 5 (by simp));have r41:(Aq a [39,40,41,42,43,44,45] v).eval (.tmp 41)=_:=(Au 2 hnd rfl (by omega)).trans e2;have r44:(Aq a [39,40,41,42,43,44,45] v).eval (.tmp 44)=_:=(Au 5 hnd rfl (by omega)).trans e5;refine Df.mk ?_;unfold Oper.wp;simp only[execOp,Aeu,r41,r44];go_simp;exact hK.out _ _ (Bm.next (W:=W) hv 6 (.bool (decide ((n:Int)<60+(y:Int)))) (Az 6 hnd rfl) (fun _ _ h=>h) ⟨_,rfl,fun h=>by have:=of_decide_eq_true h;omega⟩ (hg.keep (by decide) fun _ h=>h))
variable {S kk' d k:Nat}{v v' bv:Value}{bs bs':List BAt}{W' w:World}{bk bn bk' bn':ByteArray}{ls ls':List LAt}
structure Rb(B p:Nat)(w1:World)(S:Nat)(kk:Nat)(v:Value)(bs:List BAt)(W:World):Prop where
 rd:Rd B W p kk
 gr:w1.grownBy W (some p)
 box:W.heap[S]?=some (.cells #[v] 25 (0,0))
 Sge:w1.heap.size≤S
 plt:p<w1.heap.size
 bin:Aw W v bs
 abv:∀ q,q<w1.heap.size→Bk q v bs
 farS:Bk S v bs
 small:∀ b∈bs,E5 b.name b.ls
theorem Rb.Slt(h:Rb B p w1 S kk v bs W):S<W.heap.size:=(Array.getElem?_eq_some_iff.1 h.box).1
theorem Rb.grown(h:Rb B p w1 S kk v bs W)(g:W.grownBy W' (some p))(r:Rd B W' p kk'):Rb B p w1 S kk' v bs W' :=
 ⟨r,A1 h.gr g,Cv.grown g S _ (Nat.lt_of_lt_of_le h.plt h.Sge) h.box,h.Sge,h.plt,h.bin.far (h.abv p h.plt) g,h.abv,h.farS,h.small⟩
theorem Rb.below(h:Rb B p w1 S kk v bs W)(hb:Below W.heap.size W W'):Rb B p w1 S kk v bs W' :=
 ⟨h.rd.below hb,A1 h.gr (Bs hb _),by rw[hb.block S h.Slt];exact h.box,h.Sge,h.plt,h.bin.below hb,h.abv,h.farS,h.small⟩
theorem Rb.turn{R:Nat}(h:Rb B p w1 S kk v bs W)(hg:W.grownBy W' (some R))(hR:w1.heap.size≤R)(hRS:R≠S)(hf:Bk R v bs):Rb B p w1 S kk v bs W':=by
 have hpR:=Nat.lt_of_lt_of_le h.plt hR;refine⟨Bl.rd h.rd (Bl.of_grown (S:=[R]) hg (fun g hg=>by cases hg;simp)) (fun i hi=>by rw[List.mem_singleton.1 hi];exact hpR),⟨hg.os.trans h.gr.os,hg.tape.trans h.gr.tape,hg.output.trans h.gr.output,Nat.le_trans h.gr.size hg.size,fun i hi hne=>?_⟩,(hg.block S h.Slt (by intro e;exact hRS (Option.some.inj e).symm)).trans h.box,h.Sge,h.plt,h.bin.far hf hg,h.abv,h.farS,h.small⟩;have:=h.gr.size;rw[hg.block i (by omega) (by intro e;have:=Option.some.inj e;omega)];exact h.gr.block i hi hne
theorem Rb.put(h:Rb B p w1 S kk v bs W)(hl:Aw W v' bs')(fp:∀ q,q<w1.heap.size→Bk q v' bs')(fS:Bk S v' bs')(hs:∀ x∈bs',E5 x.name x.ls):Rb B p w1 S kk v' bs' (W.setRow S #[v']):=by
 have gs:=Bx W S #[v'];have hpS:=Nat.lt_of_lt_of_le h.plt h.Sge;refine⟨Bl.rd h.rd (Bl.of_grown (S:=[S]) gs (fun g hg=>by cases hg;simp)) (fun i hi=>by rw[List.mem_singleton.1 hi];exact hpS),⟨h.gr.os,h.gr.tape,h.gr.output,by rw[setRow_size];exact h.gr.size,fun i hi hne=>?_⟩,setRow_heap _ _ _ _ _ _ h.box,h.Sge,h.plt,hl.far fS gs,fp,fS,hs⟩;have:=h.Sge;rw[setRow_other _ _ _ _ (by omega)];exact h.gr.block i hi hne
theorem Rb.out{a:Option Addr}{bs5:List BAt}(h:Rb B p w1 S kk v bs W)(hs1:w1.heap.size=w.heap.size+2)(hw:w.grownBy w1 (some p))(hp:p<w.heap.size)(hk:kk≤k+d)(hl:bs.length≤62)(he:bs5.map BAt.plain=bs.map BAt.plain)(ho:As W.heap.size W' (.slice a n c) bs5)(hb:Below W.heap.size W W')(cs:Array Value):Gk d B p k w (.returned (.agg #[.slice a n c])) (W'.setRow (w.heap.size+1) cs):=by
 have gs:=Bx W' (w.heap.size+1) cs;have h5:=h.below hb;have hz:=h.gr.size;have hO:=(ho.setRow (w.heap.size+1) (by omega) cs).mono (show w.heap.size≤W.heap.size by omega);have hlen:bs5.length=bs.length:=by have:=congrArg List.length he;simpa using this
 refine⟨a,n,c,bs5,kk,rfl,hk,Bl.rd h5.rd (Bl.of_grown (S:=[w.heap.size+1]) gs (fun g hg=>by cases hg;simp)) (fun i hi=>by rw[List.mem_singleton.1 hi];omega),⟨h5.gr.os.trans hw.os,h5.gr.tape.trans hw.tape,h5.gr.output.trans hw.output,?_,fun i hi hne=>?_⟩,hO.bin,⟨A2.same ⟨by omega,h.small⟩ he,by omega⟩,fun q hq=>hO.far hq⟩
 ·rw[setRow_size];have:=h5.gr.size;omega
 ·rw[setRow_other _ _ _ _ (by omega),h5.gr.block i (by omega) hne];exact hw.block i hi hne
structure Yn(c S Y:Nat)(bk bn:ByteArray)(bv:Value)(ls:List LAt)(W:World):Prop where
 box:W.heap[Y]?=some (.cells #[.string bk,.string bn,bv] 46 (0,0))
 cY:c≤Y
 YS:Y≠S
 free:Eg c [S,Y] W bv ls
 small:E5 bn ls
theorem Yn.lt(h:Yn c S Y bk bn bv ls W):Y<W.heap.size:=(Array.getElem?_eq_some_iff.1 h.box).1
theorem Yn.below(h:Yn c S Y bk bn bv ls W)(hb:Below W.heap.size W W'):Yn c S Y bk bn bv ls W' :=
 ⟨(hb.block Y h.lt).trans h.box,h.cY,h.YS,h.free.below hb,h.small⟩
theorem Yn.grown(h:Yn c S Y bk bn bv ls W)(hg:W.grownBy W' (some p))(hp:p<c):Yn c S Y bk bn bv ls W':=by
 have:=h.cY;exact⟨(hg.block Y h.lt (by intro e;have:=Option.some.inj e;omega)).trans h.box,h.cY,h.YS,h.free.grown hg (.inl hp),h.small⟩
theorem Yn.put{bv':Value}(h:Yn c S Y bk bn bv ls W)(hg:W.grownBy W' (some Y))(hy:W'.heap[Y]?=some (.cells #[.string bk',.string bn',bv'] 46 (0,0)))(hf:Eg c [S,Y] W bv' ls')(hs:E5 bn' ls'):Yn c S Y bk' bn' bv' ls' W' :=
 ⟨hy,h.cY,h.YS,hf.grown hg (.inr (by simp)),hs⟩
variable {b0 off sc q:Nat}{kind name:ByteArray}
def Pd: Oper := { dst := some 53, op := Op.load 46 (Operand.tmp 7), type := 46, pos := "l8_draw.go:355", after := #[], guard := none }
def Pe: Oper := { dst := some 54, op := Op.fieldAddr 46 (Operand.tmp 7) 2, type := 0, pos := "l8_draw.go:355", after := #[], guard := none }
def Pf: Oper := { dst := some 55, op := Op.load 44 (Operand.tmp 54), type := 44, pos := "l8_draw.go:355", after := #[{ on := 1, ground := Ground.data }], guard := none }
def Pg: Oper := { dst := some 56, op := Op.move (Operand.tmp 0), type := 65, pos := "l8_draw.go:355", after := #[], guard := none }
def Ph: Oper := { dst := some 57, op := Op.fieldAddr 46 (Operand.tmp 7) 2, type := 0, pos := "l8_draw.go:355", after := #[], guard := none }
def Pi: Oper := { dst := some 58, op := Op.load 44 (Operand.tmp 57), type := 44, pos := "l8_draw.go:355", after := #[{ on := 4, ground := Ground.data }], guard := none }
def Vf: Oper := { dst := some 59, op := Op.call { callee := Callee.builtin Builtin.len, args := #[Operand.tmp 58], argTypes := #[44] }, type := 3, pos := "l8_draw.go:355", after := #[{ on := 5, ground := Ground.data }], guard := none }
def Pj: Oper := { dst := some 60, op := Op.call { callee := Callee.value (Operand.func 44), args := #[Operand.tmp 56, Operand.tmp 59], argTypes := #[65, 3] }, type := 3, pos := "l8_draw.go:355", after := #[{ on := 3, ground := Ground.data }, { on := 6, ground := Ground.data }], guard := none }
def Pk: Oper := { dst := some 61, op := Op.indexAddr 44 (Operand.tmp 55) (Operand.tmp 60), type := 0, pos := "l8_draw.go:355", after := #[{ on := 2, ground := Ground.data }, { on := 7, ground := Ground.data }], guard := none }
def Pl: Oper := { dst := some 62, op := Op.fieldAddr 115 (Operand.tmp 61) 0, type := 0, pos := "l8_draw.go:355", after := #[{ on := 8, ground := Ground.data }], guard := none }
def Mr: Oper := { dst := some 63, op := Op.load 9 (Operand.tmp 62), type := 9, pos := "l8_draw.go:355", after := #[{ on := 9, ground := Ground.data }], guard := none }
def Ms: Oper := { dst := some 64, op := Op.call { callee := Callee.value (Operand.func 107), args := #[Operand.tmp 53, Operand.tmp 63], argTypes := #[46, 9] }, type := 46, pos := "l8_draw.go:355", after := #[{ on := 0, ground := Ground.data }, { on := 10, ground := Ground.data }, { on := 7, ground := Ground.chain }], guard := none }
def Mt: Oper := { dst := none, op := Op.store 46 (Operand.tmp 7) (Operand.tmp 64), type := 0, pos := "l8_draw.go:355", after := #[{ on := 11, ground := Ground.data }, { on := 11, ground := Ground.chain }, { on := 0, ground := Ground.phase }, { on := 1, ground := Ground.phase }, { on := 2, ground := Ground.phase }, { on := 3, ground := Ground.phase }, { on := 4, ground := Ground.phase }, { on := 5, ground := Ground.phase }, { on := 6, ground := Ground.phase }, { on := 7, ground := Ground.phase }, { on := 8, ground := Ground.phase }, { on := 9, ground := Ground.phase }, { on := 10, ground := Ground.phase }, { on := 11, ground := Ground.phase }], guard := none }
def Aht:List Oper:=[Pd,Pe,Pf,Pg,Ph,Pi,Vf,Pj,Pk,Pl,Mr,Ms,Mt]
def J4(c S Y p n b0 off sc:Nat)(kind name:ByteArray)(i:Nat)(x:Value)(W:World):Prop:=match i with
 | 0=>x=.agg #[.string kind,.string name,(.slice (some ⟨b0,off,none⟩) n sc)]
 | 1=>x=.pointer (some ⟨Y,2,none⟩)
 | 2=>x=(.slice (some ⟨b0,off,none⟩) n sc)
 | 3=>x=.pointer (some ⟨p,0,none⟩)
 | 4=>x=.pointer (some ⟨Y,2,none⟩)
 | 5=>x=(.slice (some ⟨b0,off,none⟩) n sc)
 | 6=>x=.int .i64 (n:Int)
 | 7=>∃ y:Nat,y<n∧x=.int .i64 (y:Int)
 | 8=>∃ y:Nat,y<n∧x=.pointer (some ⟨b0,off+y * 2,none⟩)
 | 9=>∃ y:Nat,y<n∧x=.pointer (some ⟨b0,off+y * 2,none⟩)
 | 10=>∃ key:ByteArray,x=.string key
 | 11=>∃(a:Option Addr) (m cc:Nat) (ls':List LAt),x=.agg #[.string kind,.string name,.slice a m cc]∧Eg c [S,Y] W (.slice a m cc) ls'∧E5 name ls'
 | _=>True
theorem J4.keep(k:∀ v ls,Eg c [S,Y] W v ls→Eg c [S,Y] W' v ls):∀(i:Nat) (x:Value),J4 c S Y p n b0 off sc kind name i x W→J4 c S Y p n b0 off sc kind name i x W':=by
 intro i x h;unfold J4 at *;split <;> simp only at h
 all_goals first | exact h | trivial | (obtain⟨a,m,cc,ls',e,h1,h2⟩:=h;exact⟨a,m,cc,ls',e,k _ _ h1,h2⟩)
theorem Xw{cc:Nat}{key:ByteArray}{a:Option Addr}(h:Yn c S Y bk bn bv ls W)(hS:S<W.heap.size)(hc:c≤W.heap.size)(hb:Below W.heap.size W W')(ho:W'.ownsRow W.heap.size 115 2 (.slice a n cc) (ls.filter (Ck key)).length ((ls.filter (Ck key)).flatMap LAt.cells)):Eg c [S,Y] W' (.slice a n cc) (ls.filter (Ck key))∧E5 bn (ls.filter (Ck key)):=by
 have hY:=h.lt;have hm:∀ x∈ls.filter (Ck key),x∈ls:=fun x hx=>(List.mem_filter.1 hx).1
 refine⟨⟨⟨Bo ho,fun x hx=>(h.free.1.2 x (hm x hx)).below hb⟩,fun q hq=>⟨Cr.above ho ?_,fun x hx=>(h.free.2.1 q hq).2 x (hm x hx)⟩,fun q hq=>⟨Cr.above ho (by omega),fun x hx=>(h.free.2.2 q hq).2 x (hm x hx)⟩⟩,h.small.1,Nat.le_trans (List.length_filter_le _ _) h.small.2.1,fun x hx=>h.small.2.2 x (hm x hx)⟩;simp only[List.mem_cons,List.not_mem_nil,or_false]at hq;rcases hq with rfl | rfl <;> omega
theorem Xx(h:Aw w v bs)(hq:w.heap.size≤q):Bk q v bs:=⟨Cr.of_lt h.1 (by decide) hq,fun x hx=>Ah.fresh (h.2 x hx) hq⟩
theorem Acn{cs:List BAt}(hS:Rb B p w1 S kk v cs W0)(hY:Yn w1.heap.size S Y kind name (.slice (some ⟨b0,off,none⟩) n sc) ls W0)(hfY:Bk Y v cs)(hn:ls.length=n)(hn2:n≤1000)(h1n:1≤n)(hk:kk≤900000)(h0:a.eval (.tmp 0)=(.pointer (some ⟨p,0,none⟩)))(h7:a.eval (.tmp 7)=(.pointer (some ⟨Y,0,none⟩)))(hsz:a.tmps.size=94)
  (hQ:∀ u qa m cc ls' k' W' a',a'=Aq a [53,54,55,56,57,58,59,60,61,62,63,64] u→k'≤kk+1→Rb B p w1 S k' v cs W'→Yn w1.heap.size S Y kind name (.slice qa m cc) ls' W'→Q .normal a' W'):(Code.region 14 Aht.toArray true).wp Tryz.prog Q a W0:=by
 have hnd:([53,54,55,56,57,58,59,60,61,62,63,64]:List Nat).Nodup:=by decide
 have hpl:=hS.plt;refine Co [53,54,55,56,57,58,59,60,61,62,63,64] (J4 w1.heap.size S Y p n b0 off sc kind name) (Xr (fun k W=>Rb B p w1 S k v cs W∧Yn w1.heap.size S Y kind name (.slice (some ⟨b0,off,none⟩) n sc) ls W) 7 kk 1) 12 13 [0,1,2,3,4,5,6,7,8,9,10,11,12] (by kernel_rfl) rfl (by decide) (by kernel_rfl) ?h1 ⟨_,Nat.le_refl _,hS.below (Below.refl _ _).drew,hY.below (Below.refl _ _).drew⟩ ?hall;case h1 =>
  intro i x W hi;unfold J4;split <;> first | omega | trivial
 refine Am.consQ (o:=Pd) [] (by kernel_rfl) (by decide) (by kernel_rfl) rfl ?o0 (Am.consQ (o:=Pe) [] (by kernel_rfl) (by decide) (by kernel_rfl) rfl ?o1 (Am.consQ (o:=Pf) [1] (by kernel_rfl) (by decide) (by kernel_rfl) rfl ?o2 (Am.consQ (o:=Pg) [] (by kernel_rfl) (by decide) (by kernel_rfl) rfl ?o3 (Am.consQ (o:=Ph) [] (by kernel_rfl) (by decide) (by kernel_rfl) rfl ?o4 (Am.consQ (o:=Pi) [4] (by kernel_rfl) (by decide) (by kernel_rfl) rfl ?o5 (Am.consQ (o:=Vf) [5] (by kernel_rfl) (by decide) (by kernel_rfl) rfl ?o6 (Am.consQ (o:=Pj) [3,6] (by kernel_rfl) (by decide) (by kernel_rfl) rfl ?o7 (Am.consQ (o:=Pk) [2,7] (by kernel_rfl) (by decide) (by kernel_rfl) rfl ?o8 (Am.consQ (o:=Pl) [8] (by kernel_rfl) (by decide) (by kernel_rfl) rfl ?o9 (Am.consQ (o:=Mr) [9] (by kernel_rfl) (by decide) (by kernel_rfl) rfl ?o10 (Am.consQ (o:=Ms) [0,10,7] (by kernel_rfl) (by decide) (by kernel_rfl) rfl ?o11 (Am.lastQ (o:=Mt) [11,11,0,1,2,3,4,5,6,7,8,9,10,11] (by kernel_rfl) (by kernel_rfl) rfl ?o12))))))))))));case o0 =>
  rintro Q' L _ W h0L hpre ⟨v,rfl,hv,hg⟩ K hK;obtain⟨k',hk',hJ',hY'⟩:=hg.get;have g0:=Ab hY'.box 0;have g1:=Ab hY'.box 1;have g2:=Ab hY'.box 2;simp only[List.getElem?_toArray,List.getElem?_cons_zero,List.getElem?_cons_succ]at g0 g1 g2;have r7:=(Bj (v:=v) (show 7 ∉ ([53,54,55,56,57,58,59,60,61,62,63,64]:List Nat) by decide)).trans h7;have he : execOp (Aq a [53, 54, 55, 56, 57, 58, 59, 60, 61, 62, 63, 64] v).eval Pd = execOp (Act.eval ⟨#[undef], []⟩) ⟨some 0, .load 46 (.const (.pointer (some ⟨Y, 0, none⟩))), 0, "", #[], none⟩ := by simp only[execOp, Af, Pd, r7]
  refine Df.mk ?_;unfold Oper.wp;rw[he];clear he;go_simp;exact hK.out _ _ (Bm.next (W:=W) hv 0 (.agg #[.string kind,.string name,(.slice (some ⟨b0,off,none⟩) n sc)]) (Az 0 hnd rfl) (J4.keep (fun _ _ h=>h)) rfl (hg.keep (by decide) fun _ h=>h))
 case o1 =>
  rintro Q' L _ W h0L hpre ⟨v,rfl,hv,hg⟩ K hK;have r7:=(Bj (v:=v) (show 7 ∉ ([53,54,55,56,57,58,59,60,61,62,63,64]:List Nat) by decide)).trans h7;have he : execOp (Aq a [53, 54, 55, 56, 57, 58, 59, 60, 61, 62, 63, 64] v).eval Pe = execOp (Act.eval ⟨#[undef], []⟩) ⟨some 0, .fieldAddr 46 (.const (.pointer (some ⟨Y, 0, none⟩))) 2, 0, "", #[], none⟩ := by simp only[execOp, Af, Pe, r7]
  refine Df.mk ?_;unfold Oper.wp;rw[he];clear he;go_simp;exact hK.out _ _ (Bm.next (W:=W) hv 1 (.pointer (some ⟨Y,2,none⟩)) (Az 1 hnd rfl) (J4.keep (fun _ _ h=>h)) rfl (hg.keep (by decide) fun _ h=>h))
 case o2 =>
  rintro Q' L _ W h0L hpre ⟨v,rfl,hv,hg⟩ K hK;obtain⟨k',hk',hJ',hY'⟩:=hg.get;have g0:=Ab hY'.box 0;have g1:=Ab hY'.box 1;have g2:=Ab hY'.box 2;simp only[List.getElem?_toArray,List.getElem?_cons_zero,List.getElem?_cons_succ]at g0 g1 g2;have r54:(Aq a [53,54,55,56,57,58,59,60,61,62,63,64] v).eval (.tmp 54)=_:=(Au 1 hnd rfl (by omega)).trans (hv 1 (hpre 1 (by simp)));have he : execOp (Aq a [53, 54, 55, 56, 57, 58, 59, 60, 61, 62, 63, 64] v).eval Pf = execOp (Act.eval ⟨#[undef], []⟩) ⟨some 0, .load 44 (.const (.pointer (some ⟨Y, 2, none⟩))), 0, "", #[], none⟩ := by simp only[execOp, Af, Pf, r54]
  refine Df.mk ?_;unfold Oper.wp;rw[he];clear he;go_simp;exact hK.out _ _ (Bm.next (W:=W) hv 2 (.slice (some ⟨b0,off,none⟩) n sc) (Az 2 hnd rfl) (J4.keep (fun _ _ h=>h)) rfl (hg.keep (by decide) fun _ h=>h))
 case o3 =>
  rintro Q' L _ W h0L hpre ⟨v,rfl,hv,hg⟩ K hK;have r0:=(Bj (v:=v) (show 0 ∉ ([53,54,55,56,57,58,59,60,61,62,63,64]:List Nat) by decide)).trans h0;have he : execOp (Aq a [53, 54, 55, 56, 57, 58, 59, 60, 61, 62, 63, 64] v).eval Pg = execOp (Act.eval ⟨#[undef], []⟩) ⟨some 0, .move (.const (.pointer (some ⟨p, 0, none⟩))), 0, "", #[], none⟩ := by simp only[execOp, Af, Pg, r0]
  refine Df.mk ?_;unfold Oper.wp;rw[he];clear he;go_simp;exact hK.out _ _ (Bm.next (W:=W) hv 3 (.pointer (some ⟨p,0,none⟩)) (Az 3 hnd rfl) (J4.keep (fun _ _ h=>h)) rfl (hg.keep (by decide) fun _ h=>h))
 case o4 =>
  rintro Q' L _ W h0L hpre ⟨v,rfl,hv,hg⟩ K hK;have r7:=(Bj (v:=v) (show 7 ∉ ([53,54,55,56,57,58,59,60,61,62,63,64]:List Nat) by decide)).trans h7;have he : execOp (Aq a [53, 54, 55, 56, 57, 58, 59, 60, 61, 62, 63, 64] v).eval Ph = execOp (Act.eval ⟨#[undef], []⟩) ⟨some 0, .fieldAddr 46 (.const (.pointer (some ⟨Y, 0, none⟩))) 2, 0, "", #[], none⟩ := by simp only[execOp, Af, Ph, r7]
  refine Df.mk ?_;unfold Oper.wp;rw[he];clear he;go_simp;exact hK.out _ _ (Bm.next (W:=W) hv 4 (.pointer (some ⟨Y,2,none⟩)) (Az 4 hnd rfl) (J4.keep (fun _ _ h=>h)) rfl (hg.keep (by decide) fun _ h=>h))
 case o5 =>
  rintro Q' L _ W h0L hpre ⟨v,rfl,hv,hg⟩ K hK;obtain⟨k',hk',hJ',hY'⟩:=hg.get;have g0:=Ab hY'.box 0;have g1:=Ab hY'.box 1;have g2:=Ab hY'.box 2;simp only[List.getElem?_toArray,List.getElem?_cons_zero,List.getElem?_cons_succ]at g0 g1 g2;have r57:(Aq a [53,54,55,56,57,58,59,60,61,62,63,64] v).eval (.tmp 57)=_:=(Au 4 hnd rfl (by omega)).trans (hv 4 (hpre 4 (by simp)));have he : execOp (Aq a [53, 54, 55, 56, 57, 58, 59, 60, 61, 62, 63, 64] v).eval Pi = execOp (Act.eval ⟨#[undef], []⟩) ⟨some 0, .load 44 (.const (.pointer (some ⟨Y, 2, none⟩))), 0, "", #[], none⟩ := by simp only[execOp, Af, Pi, r57]
  refine Df.mk ?_;unfold Oper.wp;rw[he];clear he;go_simp;exact hK.out _ _ (Bm.next (W:=W) hv 5 (.slice (some ⟨b0,off,none⟩) n sc) (Az 5 hnd rfl) (J4.keep (fun _ _ h=>h)) rfl (hg.keep (by decide) fun _ h=>h))
 case o6 =>
  rintro Q' L _ W h0L hpre ⟨v,rfl,hv,hg⟩ K hK;have r58:(Aq a [53,54,55,56,57,58,59,60,61,62,63,64] v).eval (.tmp 58)=_:=(Au 5 hnd rfl (by omega)).trans (hv 5 (hpre 5 (by simp)));refine Df.mk ?_;unfold Oper.wp;simp only[execOp,Vf,resolve,List.map_toArray,List.map_cons,List.map_nil,r58];go_simp;exact hK.out _ _ (Bm.next (W:=W) hv 6 (.int .i64 (n:Int)) (Az 6 hnd rfl) (J4.keep (fun _ _ h=>h)) rfl (hg.keep (by decide) fun _ h=>h))
 case o7 =>
  rintro Q' L _ W h0L hpre ⟨v,rfl,hv,hg⟩ K hK;have r56:(Aq a [53,54,55,56,57,58,59,60,61,62,63,64] v).eval (.tmp 56)=_:=(Au 3 hnd rfl (by omega)).trans (hv 3 (hpre 3 (by simp)));have r59:(Aq a [53,54,55,56,57,58,59,60,61,62,63,64] v).eval (.tmp 59)=_:=(Au 6 hnd rfl (by omega)).trans (hv 6 (hpre 6 (by simp)));obtain⟨k',hk',hJ',hY'⟩:=hg.get0 h0L;have HP:=Bn B p k' n W hJ'.rd h1n hn2 (by omega);have he : execOp (Aq a [53, 54, 55, 56, 57, 58, 59, 60, 61, 62, 63, 64] v).eval Pj = execOp (Act.eval ⟨#[undef], []⟩) ⟨some 0, .call { callee := .value (.func 44), args := #[.const (.pointer (some ⟨p, 0, none⟩)), .const (.int .i64 (n : Int))], argTypes := #[65, 3] }, 0, "", #[], none⟩ := by simp only[execOp, Af, Pj, resolve, Eo, List.map_toArray, List.map_cons, List.map_nil, r56, r59]
  refine Df.mk ?_;unfold Oper.wp;rw[he];clear he;go_simp;refine HP.mono ?_;rintro e W' ⟨y,hy,rfl,hr',hg'⟩;exact hK.out _ _ (Bm.next (W:=W) hv 7 (.int .i64 (y:Int)) (Az 7 hnd rfl) (J4.keep (fun _ _ h=>h.grown hg' (.inl hpl))) ⟨y,hy,rfl⟩ (Xr.put hk' (Nat.le_refl _) ⟨hJ'.grown hg' hr',hY'.grown hg' hpl⟩))
 case o8 =>
  rintro Q' L _ W h0L hpre ⟨v,rfl,hv,hg⟩ K hK;obtain⟨y,hy,e7⟩:=hv 7 (hpre 7 (by simp));have r55:(Aq a [53,54,55,56,57,58,59,60,61,62,63,64] v).eval (.tmp 55)=_:=(Au 2 hnd rfl (by omega)).trans (hv 2 (hpre 2 (by simp)));have r60:(Aq a [53,54,55,56,57,58,59,60,61,62,63,64] v).eval (.tmp 60)=_:=(Au 7 hnd rfl (by omega)).trans e7;have y0:(0:Int)≤(y:Int):=by omega
  have y3:(y:Int)<(n:Int):=by omega
  have he : execOp (Aq a [53, 54, 55, 56, 57, 58, 59, 60, 61, 62, 63, 64] v).eval Pk = execOp (Act.eval ⟨#[undef], []⟩) ⟨some 0, .indexAddr 44 (.const (.slice (some ⟨b0, off, none⟩) n sc)) (.const (.int .i64 (y : Int))), 0, "", #[], none⟩ := by simp only[execOp, Af, Pk, r55, r60]
  refine Df.mk ?_;unfold Oper.wp;rw[he];clear he;go_simp;exact hK.out _ _ (Bm.next (W:=W) hv 8 (.pointer (some ⟨b0,off+y * 2,none⟩)) (Az 8 hnd rfl) (J4.keep (fun _ _ h=>h)) ⟨y,hy,rfl⟩ (hg.keep (by decide) fun _ h=>h))
 case o9 =>
  rintro Q' L _ W h0L hpre ⟨v,rfl,hv,hg⟩ K hK;obtain⟨y,hy,e8⟩:=hv 8 (hpre 8 (by simp));have r61:(Aq a [53,54,55,56,57,58,59,60,61,62,63,64] v).eval (.tmp 61)=_:=(Au 8 hnd rfl (by omega)).trans e8;have he : execOp (Aq a [53, 54, 55, 56, 57, 58, 59, 60, 61, 62, 63, 64] v).eval Pl = execOp (Act.eval ⟨#[undef], []⟩) ⟨some 0, .fieldAddr 115 (.const (.pointer (some ⟨b0, off + y * 2, none⟩))) 0, 0, "", #[], none⟩ := by simp only[execOp, Af, Pl, r61]
  refine Df.mk ?_;unfold Oper.wp;rw[he];clear he;go_simp;exact hK.out _ _ (Bm.next (W:=W) hv 9 (.pointer (some ⟨b0,off+y * 2,none⟩)) (Az 9 hnd rfl) (J4.keep (fun _ _ h=>h)) ⟨y,hy,rfl⟩ (hg.keep (by decide) fun _ h=>h))
 case o10 =>
  rintro Q' L _ W h0L hpre ⟨v,rfl,hv,hg⟩ K hK;obtain⟨y,hy,e9⟩:=hv 9 (hpre 9 (by simp));have r62:(Aq a [53,54,55,56,57,58,59,60,61,62,63,64] v).eval (.tmp 62)=_:=(Au 9 hnd rfl (by omega)).trans e9;obtain⟨k',hk',hJ',hY'⟩:=hg.get;obtain⟨D,x,T,e2,hD⟩:=Br ls y (by omega);have hrow:=hY'.free.1.1;rw[hn,e2]at hrow;obtain⟨b',off',eb,d0,d1⟩:=hrow.line;cases eb
  simp only[hD]at d0 d1;clear d1;generalize x.key=xk at *;have he : execOp (Aq a [53, 54, 55, 56, 57, 58, 59, 60, 61, 62, 63, 64] v).eval Mr = execOp (Act.eval ⟨#[undef], []⟩) ⟨some 0, .load 9 (.const (.pointer (some ⟨b0, off + y * 2, none⟩))), 0, "", #[], none⟩ := by simp only[execOp, Af, Mr, r62]
  refine Df.mk ?_;unfold Oper.wp;rw[he];clear he;go_simp;exact hK.out _ _ (Bm.next (W:=W) hv 10 (.string xk) (Az 10 hnd rfl) (J4.keep (fun _ _ h=>h)) ⟨_,rfl⟩ (hg.keep (by decide) fun _ h=>h))
 case o11 =>
  rintro Q' L _ W h0L hpre ⟨v,rfl,hv,hg⟩ K hK;obtain⟨key,e10⟩:=hv 10 (hpre 10 (by simp));have r53:(Aq a [53,54,55,56,57,58,59,60,61,62,63,64] v).eval (.tmp 53)=_:=(Au 0 hnd rfl (by omega)).trans (hv 0 (hpre 0 (by simp)));have r63:(Aq a [53,54,55,56,57,58,59,60,61,62,63,64] v).eval (.tmp 63)=_:=(Au 10 hnd rfl (by omega)).trans e10;obtain⟨k',hk',hJ',hY'⟩:=hg.get;have HW:=I9 (b:=⟨kind,name,(.slice (some ⟨b0,off,none⟩) n sc),ls⟩) key (w:=W) hY'.free.1 hY'.small.2;have hz1:=hJ'.gr.size;have he : execOp (Aq a [53, 54, 55, 56, 57, 58, 59, 60, 61, 62, 63, 64] v).eval Ms = execOp (Act.eval ⟨#[undef], []⟩) ⟨some 0, .call { callee := .value (.func 107), args := #[.const (.agg #[.string kind, .string name, (.slice (some ⟨b0, off, none⟩) n sc)]), .const (.string key)], argTypes := #[46, 9] }, 0, "", #[], none⟩ := by simp only[execOp, Af, Ms, resolve, Eo, List.map_toArray, List.map_cons, List.map_nil, r53, r63]
  refine Df.mk ?_;unfold Oper.wp;rw[he];clear he;go_simp;refine HW.mono ?_;rintro e W' ⟨qa,m,cc,rfl,ho,hb'⟩;have hfr:=Xw hY' hJ'.Slt hz1 hb' ho;exact hK.out _ _ (Bm.next (W:=W) hv 11 (.agg #[.string kind,.string name,.slice qa m cc]) (Az 11 hnd rfl) (J4.keep (fun _ _ h=>h.below hb')) ⟨qa,m,cc,_,rfl,hfr.1,hfr.2⟩ (hg.keep (by decide) fun _ h=>⟨h.1.below hb',h.2.below hb'⟩))
 case o12 =>
  rintro Q' L _ W h0L hpre ⟨v,rfl,hv,hg⟩ K hK;obtain⟨qa,m,cc,ls2,e11,hfr,hsm⟩:=hv 11 (hpre 11 (by simp));have r64:(Aq a [53,54,55,56,57,58,59,60,61,62,63,64] v).eval (.tmp 64)=_:=(Au 11 hnd rfl (by omega)).trans e11;have r7:=(Bj (v:=v) (show 7 ∉ ([53,54,55,56,57,58,59,60,61,62,63,64]:List Nat) by decide)).trans h7;obtain⟨k',hk',hJ',hY'⟩:=hg.get;have g0:=Ab hY'.box 0;have g1:=Ab hY'.box 1;have g2:=Ab hY'.box 2;simp only[List.getElem?_toArray,List.getElem?_cons_zero,List.getElem?_cons_succ]at g0 g1 g2;have f0:=Ag hY'.box 0;have f1:=Ag hY'.box 1;have f2:=Ag hY'.box 2;have HT:=Xa (k':=kind) (n':=name) (v':=.slice qa m cc) hY'.box;have HN:=Aa (hJ'.turn HT.2 hY'.cY hY'.YS hfY);have HM:=Aa (hY'.put HT.2 HT.1 hfr hsm);have he : execOp (Aq a [53, 54, 55, 56, 57, 58, 59, 60, 61, 62, 63, 64] v).eval Mt = execOp (Act.eval ⟨#[undef], []⟩) ⟨some 0, .store 46 (.const (.pointer (some ⟨Y, 0, none⟩))) (.const (.agg #[.string kind, .string name, .slice qa m cc])), 0, "", #[], none⟩ := by simp only[execOp, Af, Mt, r7, r64]
  refine Df.mk ?_;unfold Oper.wp;rw[he];clear he;go_simp;exact hK.out _ _ (NoPanic.normal (hQ _ qa m cc ls2 k' _ _ rfl hk' HN.out HM.out))
variable {sa:Option Addr}
def Ahu(B p k:Nat)(w1:World)(S n:Nat)(i:Value)(W:World):Prop:=∃(j kk:Nat) (v:Value) (cs:List BAt),i=.int .i64 (j:Int)∧j≤n∧cs.length≤j∧kk≤k+102 * j∧Rb B p w1 S kk v cs W
def Ahv(B p k:Nat)(w1:World)(S:Nat)(i:Value)(W:World):Prop:=∃(m kk:Nat) (v:Value) (cs:List BAt),i=.int .i64 (m:Int)∧m≤2∧cs.length≤62∧kk+100 * m≤k+201∧Rb B p w1 S kk v cs W
theorem Ahw(h:Aw w1 v bs)(hf:Bk p v bs)(g:w1.grownBy W (some p)):Aw W v bs:=h.far hf g
theorem Aco(h:Ah W' v ls)(hf:∀ q,q<W.heap.size→Aj q v ls)(hc:c≤W.heap.size)(hS:S<W.heap.size)(hY:Y<W.heap.size):Eg c [S,Y] W' v ls:=⟨h,fun q hq=>by
 simp only[List.mem_cons,List.not_mem_nil,or_false]at hq;rcases hq with rfl | rfl
 ·exact hf _ hS
 ·exact hf _ hY,fun q hq=>hf q (by omega)⟩
theorem Hz{x:BAt}{cs:List BAt}(hm:∀ y∈bs',y=x∨y∈cs)(hx:E5 x.name x.ls)(hc:∀ y∈cs,E5 y.name y.ls):∀ y∈bs',E5 y.name y.ls:=fun y hy=>by
 rcases hm y hy with rfl | hy
 ·exact hx
 ·exact hc y hy
theorem Agp{u o:BAt}{a:Option Addr}{cc:Nat}(hl:Ah W' (.slice a n cc) ls)(hf:∀ q,q<W.heap.size→Aj q u.v u.ls→Aj q o.v o.ls→Aj q (.slice a n cc) ls)(hc:c≤W.heap.size)(hS:S<W.heap.size)(hY:Y<W.heap.size)(hu:Eg c [S,Y] W u.v u.ls)(ho:Eg c [S,Y] W o.v o.ls):Eg c [S,Y] W' (.slice a n cc) ls:=⟨hl,fun q hq=>hf q (by
 simp only[List.mem_cons,List.not_mem_nil,or_false]at hq;rcases hq with rfl | rfl <;> omega) (hu.2.1 q hq) (ho.2.1 q hq),fun q hq=>hf q (by omega) (hu.2.2 q hq) (ho.2.2 q hq)⟩
theorem Aew{u o:BAt}(hp:ls.map LAt.plain=Wn (rulesOf o.kind) (u.ls.map LAt.plain) (o.ls.map LAt.plain))(hm:∀ y∈ls,y∈o.ls∨y∈u.ls)(hu:Ae u.ls)(ho:Ae o.ls)(hl:o.ls.length+u.ls.length≤1048576):Ae ls:=by
 refine Ns ho hu hm ?_;have:=Aev (R:=rulesOf o.kind) (u:=u.ls.map LAt.plain) (o:=o.ls.map LAt.plain);rw[← hp]at this;simp only[List.length_map]at this;omega
theorem Z1(B p k:Nat)(w:World)(h:Rd B w p k)(hk:k≤100000)(hin:Aw w (.slice sa n sc) bs)(hfp:Bk p (.slice sa n sc) bs)(hsm:A2 bs)(hl:bs.length≤62)(h1k:∀ b∈bs,b.ls.length≤1000):Calls Tryz.prog 45 #[.pointer (some ⟨p,0,none⟩),.agg #[.slice sa n sc]] w fun e w'=>Gk 7000 B p k w e w':=by
 have hp:=h.lt;have enl:n=bs.length:=by obtain⟨a',c',e⟩:=hin.1.form;cases e;rfl
 have b2:Below w.heap.size w ((w.alloc (.cells #[.slice sa n sc] 25)).alloc (.cells #[.slice none 0 0] 25)):=((Below.refl w.heap.size w).alloc (Nat.le_refl _) _).alloc (by simp) _;have hr1:=h.below b2;have G1:=Bs b2 (some p);have s1:((w.alloc (.cells #[.slice sa n sc] 25)).alloc (.cells #[.slice none 0 0] 25)).heap.size=w.heap.size+2:=by simp
 have zs:((w.alloc (.cells #[.slice sa n sc] 25)).alloc (.cells #[.slice none 0 0] 25)).heap[w.heap.size]?=some (.cells #[.slice sa n sc] 25 (0,0)):=by
  have b1:=(Below.refl (w.alloc (.cells #[.slice sa n sc] 25)).heap.size (w.alloc (.cells #[.slice sa n sc] 25))).alloc (Nat.le_refl _) (.cells #[.slice none 0 0] 25);rw[b1.block w.heap.size (by simp)];exact Al w _
 have zr:((w.alloc (.cells #[.slice sa n sc] 25)).alloc (.cells #[.slice none 0 0] 25)).heap[w.heap.size+1]?=some (.cells #[.slice none 0 0] 25 (0,0)):=by
  have:=Al (w.alloc (.cells #[.slice sa n sc] 25)) (.cells #[.slice none 0 0] 25);rw[World.size_alloc]at this;exact this
 have hin1:=hin.below b2;generalize hw1:(w.alloc (.cells #[.slice sa n sc] 25)).alloc (.cells #[.slice none 0 0] 25)=w1 at *;have ew1:=Aa hw1;clear hw1;have z2:=Al w1 (.cells #[.slice none 0 0] 25);have bA:=(Below.refl w1.heap.size w1).alloc (Nat.le_refl _) (.cells #[.slice none 0 0] 25);rw[s1]at z2;have HS0:Rb B p w1 (w.heap.size+2) k (.slice none 0 0) [] (w1.alloc (.cells #[.slice none 0 0] 25)):=⟨hr1.below bA,Bs bA _,z2,by omega,by omega,⟨⟨rfl,none,0,rfl,⟨Nat.le_refl _,Nat.zero_le _⟩,.inl rfl⟩,by simp⟩,fun q _=>⟨.inl rfl,by simp⟩,⟨.inl rfl,by simp⟩,by simp⟩;clear z2 bA hr1 b2 h;generalize hw2:w1.alloc (.cells #[.slice none 0 0] 25)=w2 at *;have ew2:=Aa hw2;have HSI:=Aa HS0;have HIN:=Aa hin1;have HFP:=Aa hfp;have HSM:=Aa hsm;have H1K:=Aa h1k;have ENL:=Aa enl;have hn62:n≤62:=by omega
 clear hw2 HS0 hin1 hin hfp hsm h1k enl hl;go_enter Tryz.func45,Tryz.ntmps45;go_wp2;rw[ew1.out,ew2.out];rw[show w.heap.size+1+1=w.heap.size+2 from rfl];go_loopw [6] (fun i wr=>Ahu B p k w1 (w.heap.size+2) n i wr) (fun i _=>n - (intOf i).toNat)
 case atStart=>exact⟨0,k,.slice none 0 0,[],rfl,by omega,by simp,by omega,HSI.out⟩
 case round =>
  obtain⟨j,kk,v,cs,rfl,hjn,hcl,hkk,HS⟩:=hrel;obtain⟨xa,xc,rfl⟩:=HS.bin.1.form;have hW1:=HS.gr.size;have zsr:=(HS.gr.block w.heap.size (by omega) (by intro e;have:=Option.some.inj e;omega)).trans zs;have cS:=Ab zsr 0;simp only[List.getElem?_toArray,List.getElem?_cons_zero]at cS;clear HSI;by_cases hlt:j<n
  ·have hinr:=Ahw HIN.out HFP.out HS.gr;obtain⟨D,⟨bk,bn,bv,bl⟩,T,e0,hD⟩:=Br bs j (by have:=ENL.out;omega);have hmx:(⟨bk,bn,bv,bl⟩:BAt)∈bs:=by rw[e0];simp
   have hxin:=hinr.2 _ hmx;obtain⟨ba,bc,ebv⟩:=hxin.1.form;simp only at ebv;subst ebv;have hrow:=hinr.1;rw[← ENL.out,e0]at hrow;obtain⟨b0,off,esv,d0,d1,d2⟩:=hrow.block;cases esv
   simp only[hD]at d0 d1 d2;have HB:=N4 hxin (HSM.out.2 _ hmx).2;simp only at HB;have hbn:=(HSM.out.2 _ hmx).1;have hbl:=H1K.out _ hmx;have HLS:=Aa (HSM.out.2 _ hmx).2;simp only at hbn hbl;have hB0:(0:Int)≤(j:Int):=by omega
   have hB1:(j:Int)<(n:Int):=by omega
   have HSH:=Aa HS;clear HS hinr hrow hxin hmx e0 hD zsr;generalize hnl:bl.length=nl at *;go_wp2_with (go_at_call 105;refine HB.mono ?_)
   first | rintro e w3 v3 rfl ls3 hp3 o3 b3 | rintro e w3 v3 ls3 rfl hp3 o3 b3 | rintro e w3 ⟨v3,ls3,rfl,hp3,o3,b3⟩
   obtain⟨a3,c3,rfl,_⟩:=Ai o3.row;have hl3:ls3.length=nl:=by have:=congrArg List.length hp3;simpa [hnl] using this
   have HS3:=HSH.out.below b3;have hfY:=HS3.bin;have bx:=(Below.refl w3.heap.size w3).alloc (Nat.le_refl _) (.cells #[.string bk,.string bn,.slice a3 ls3.length c3] 46);have HS4:=HS3.below bx;have hS3:=HS3.Slt;have hW3:=HS3.gr.size;have hb3z:=b3.size;have HFY:=Aa (Xx HS3.bin (Nat.le_refl w3.heap.size));have HY4:Yn w1.heap.size (w.heap.size+2) w3.heap.size bk bn (.slice a3 ls3.length c3) ls3 (w3.alloc (.cells #[.string bk,.string bn,.slice a3 ls3.length c3] 46)):=⟨Al _ _,by omega,by omega,⟨o3.lin.below bx,fun q hq=>by
    simp only[List.mem_cons,List.not_mem_nil,or_false]at hq;rcases hq with rfl | rfl
    ·exact⟨Cr.above o3.row (HSH.out.Slt),fun y hy=>Cr.above (o3.words y hy) HSH.out.Slt⟩
    ·exact Ah.fresh o3.lin (Nat.le_refl _),fun q hq=>⟨Cr.above o3.row (by omega),fun y hy=>Cr.above (o3.words y hy) (by omega)⟩⟩,hbn,HLS.out.same hp3⟩
   rw[hl3]at HY4 bx HS4;generalize hY:w3.heap.size=Y at *;have hz4:(w3.alloc (.cells #[.string bk,.string bn,.slice a3 nl c3] 46)).heap.size=Y+1:=by simp[hY]
   have hYz:Y<(w3.alloc (.cells #[.string bk,.string bn,.slice a3 nl c3] 46)).heap.size:=by omega
   have HP:=Bn B p kk 5 _ HS4.rd (by omega) (by omega) (by omega);have HS4H:=Aa HS4;have HY4H:=Aa HY4;have HL3:=Aa hl3;rw[hl3];clear HB HSH HS3 hfY HS4 HY4 o3 bx hp3 HLS d0 d1 d2 cS hS3;generalize hw4:w3.alloc (.cells #[.string bk,.string bn,.slice a3 nl c3] 46)=w4 at *;have ew4:=Aa hw4;clear hw4;go_wp2_with (go_at_call 44;(try rw[ew4.out]);refine HP.mono ?_)
   rintro e w5 ⟨y,hy,rfl,hr5,hg5⟩;have HS5:=HS4H.out.grown hg5 hr5;have HY5:=HY4H.out.grown hg5 HS4H.out.plt;have hg5z:=hg5.size;clear HP HS4H HY4H hr5 hg5;obtain rfl | rfl | rfl | hy3:y=0∨y=1∨y=2∨3≤y:=by omega
   ·have HSH:=Aa HS5;clear HS5 HY5;go_wp2;go_roundw;case rel=>exact⟨j+1,kk+1,.slice xa cs.length xc,cs,by go_num,by omega,by omega,by omega,HSH.out⟩
    case measure=>simp[intOf];omega
   ·have HD:=Ho B p (kk+1) w5 HS5.rd (by omega);have HSH:=Aa HS5;have HYH:=Aa HY5;have hp5:=HS5.plt;have hS5:=HS5.Slt;have hY5:=HY5.lt;have hW5:=HS5.gr.size;clear HS5 HY5;go_wp2_with (go_at_call 106;refine HD.mono ?_)
    rintro e w6 ⟨b,k6,rfl,hk6,hr6,hg6,⟨hbl6,hbf6⟩,hbn6,hbl7,hbs6,_⟩;obtain⟨ya,yc,ey⟩:=hbl6.1.form;obtain⟨yk,yn,yv,yl⟩:=b;simp only at hbl6 hbf6 hbn6 hbl7 hbs6 ey;subst ey;have HS6:=HSH.out.grown hg6 hr6;have HY6:=HYH.out.grown hg6 hp5;have hg6z:=hg6.size;have bx:=(Below.refl w6.heap.size w6).alloc (Nat.le_refl _) (.cells #[.string yk,.string yn,.slice ya yl.length yc] 46);have xb:=Al w6 (.cells #[.string yk,.string yn,.slice ya yl.length yc] 46);have HS7:=HS6.below bx;have HY7:=HY6.below bx;have hl0:=Ab xb 0;have hl2:=Ab xb 2;have y0:=Ab HY7.box 0;have y1:=Ab HY7.box 1;have y2:=Ab HY7.box 2;simp only[List.getElem?_toArray,List.getElem?_cons_zero,List.getElem?_cons_succ]at hl0 hl2 y0 y1 y2;have HYL:=Aa (show Eg w1.heap.size [w.heap.size+2,Y] (w6.alloc (.cells #[.string yk,.string yn,.slice ya yl.length yc] 46)) (.slice ya yl.length yc) yl from Aco (W:=w5) (hbl6.below bx) hbf6 hW5 hS5 hY5);have HYS:=Aa (show Ae yl from⟨by omega,fun x hx=>⟨Nat.le_trans (hbs6 x hx).1 (by decide),fun z hz=>Nat.le_trans ((hbs6 x hx).2 z hz) (by decide)⟩⟩);have HS7H:=Aa HS7;have HY7H:=Aa HY7;clear HD HSH HYH HS6 HY6 HS7 HY7 hbl6 hbf6 hbs6 hr6 hg6 bx xb hbn6;generalize hny:yl.length=ny at *;have ENY:=Aa hny;clear hny;generalize hw7:w6.alloc (.cells #[.string yk,.string yn,.slice ya ny yc] 46)=w7 at *;have ew7:=Aa hw7;clear hw7;go_upto_region 10 with fail
    rw[ew7.out];cases hkd:(yk.toList == bk.toList)
    ·have HS:=HS7H.out;have HY:=HY7H.out;clear HS7H HY7H HYL HYS hl2 y0 y1 y2;have hSl:=HS.Slt;have hYl:=HY.lt;have q0:=Ab HS.box 0;have y0:=Ab HY.box 0;have y1:=Ab HY.box 1;have y2:=Ab HY.box 2;simp only[List.getElem?_toArray,List.getElem?_cons_zero,List.getElem?_cons_succ]at q0 y0 y1 y2;have hWz:=HS.gr.size;have HPB:=C7 (x:=⟨bk,bn,.slice a3 nl c3,ls3⟩) HS.bin (by omega) HY.free.1;have HSH:=Aa HS;have HYH:=Aa HY;clear HS HY;simp only at HPB;go_wp2_with (go_at_call 54;refine HPB.mono ?_)
     rintro e w7 ⟨a7,n7,c7,bs7,rfl,h7,b7⟩;have HS7:=HSH.out.below b7;have hbox:=HS7.box;have HPT:=Aa (HS7.put (v':=.slice a7 n7 c7) (bs':=bs7) h7.2.2.2.1 (fun q hq=>h7.2.2.2.2 q (by omega) (HSH.out.abv q hq) (HYH.out.free.2.2 q hq)) (h7.2.2.2.2 _ hSl HSH.out.farS (HYH.out.free.2.1 _ (by simp))) (Hz h7.2.2.1 HYH.out.small HSH.out.small));have hlen7:=h7.2.1;clear HPB h7 HS7 HSH HYH q0 y0 y1 y2;go_wp2_with (with_reducible show wpList _ _ _ (Oper.mk _ (Op.store _ (Operand.tmp 5) _) _ _ _ _::_) _ _;refine wpList_store_row rfl 25 _ _ rfl (w.heap.size+2) #[.slice a7 n7 c7] ?_ ?_ 25 _ hbox ?_ ?_ ?_ ?_)
     all_goals (first | rfl | kernel_rfl | exact A7 | skip)
     go_roundw;case rel=>exact⟨j+1,k6,.slice a7 n7 c7,bs7,by go_num,by omega,by omega,by omega,HPT.out⟩
     case measure=>simp[intOf];omega
    ·have hl6:yl.length+ls3.length≤1000000:=by have:=ENY.out;have:=HL3.out;omega
     have HL:=Xg (u:=⟨bk,bn,.slice a3 nl c3,ls3⟩) (o:=⟨bk,bn,.slice ya ny yc,yl⟩) (w:=w7) HY7H.out.free.1 HYL.out.1 HY7H.out.small.2 HYS.out hl6;simp only at HL;clear hl6;go_wp2_with (go_at_call 53;(try rw[ew7.out]);refine HL.mono ?_)
     rintro e w8 ⟨a8,n8,c8,ls8,rfl,⟨hp8,hm8,hin8,hf8⟩,b8⟩;have HS8:=HS7H.out.below b8;have HY8:=HY7H.out.below b8;have hboxY:=HY8.box;have hWz7:=HS7H.out.gr.size;have HF8:=Agp (u:=⟨bk,bn,.slice a3 nl c3,ls3⟩) (o:=⟨bk,bn,.slice ya ny yc,yl⟩) hin8 hf8 hWz7 HS7H.out.Slt HY7H.out.lt HY7H.out.free HYL.out;have HM8:=Aew (u:=⟨bk,bn,.slice a3 nl c3,ls3⟩) (o:=⟨bk,bn,.slice ya ny yc,yl⟩) hp8 hm8 HY7H.out.small.2 HYS.out (by have:=ENY.out;have:=HL3.out;simp only;omega);have gs:=Bx w8 Y #[.string bk,.string bn,.slice a8 n8 c8];have HSN:=Aa (HS8.turn gs HY8.cY HY8.YS HFY.out);have HYN:=Aa (HY8.put gs (setRow_heap _ _ _ _ _ _ hboxY) HF8 ⟨HY8.small.1,HM8⟩);clear HL HS7H HY7H HS8 HY8 HYL HYS hp8 hm8 hin8 hf8 HF8 HM8 gs hl0 hl2 y0 y1 y2;go_upto_region 15 with (with_reducible show wpList _ _ _ (Oper.mk _ (Op.store _ (Operand.tmp 7) _) _ _ _ _::_) _ _;refine wpList_store_row rfl 46 _ _ rfl Y #[.string bk,.string bn,.slice a8 n8 c8] ?_ ?_ 46 _ hboxY ?_ ?_ ?_ ?_)
     all_goals (first | rfl | kernel_rfl | exact⟨rfl,rfl,rfl⟩ | (obtain⟨i9,e9,_,s9,_⟩:=info_parts Cn;exact⟨i9,e9,s9⟩) | skip)
     generalize w8.setRow Y #[.string bk,.string bn,.slice a8 n8 c8]=w9 at *;have HS:=HSN.out;have HY:=HYN.out;clear HSN HYN hboxY;have hSl:=HS.Slt;have hYl:=HY.lt;have q0:=Ab HS.box 0;have y0:=Ab HY.box 0;have y1:=Ab HY.box 1;have y2:=Ab HY.box 2;simp only[List.getElem?_toArray,List.getElem?_cons_zero,List.getElem?_cons_succ]at q0 y0 y1 y2;have hWz:=HS.gr.size;have HPB:=C7 (x:=⟨bk,bn,.slice a8 n8 c8,ls8⟩) HS.bin (by omega) HY.free.1;have HSH:=Aa HS;have HYH:=Aa HY;clear HS HY;simp only at HPB;go_wp2_with (go_at_call 54;refine HPB.mono ?_)
     rintro e w7 ⟨a7,n7,c7,bs7,rfl,h7,b7⟩;have HS7:=HSH.out.below b7;have hbox:=HS7.box;have HPT:=Aa (HS7.put (v':=.slice a7 n7 c7) (bs':=bs7) h7.2.2.2.1 (fun q hq=>h7.2.2.2.2 q (by omega) (HSH.out.abv q hq) (HYH.out.free.2.2 q hq)) (h7.2.2.2.2 _ hSl HSH.out.farS (HYH.out.free.2.1 _ (by simp))) (Hz h7.2.2.1 HYH.out.small HSH.out.small));have hlen7:=h7.2.1;clear HPB h7 HS7 HSH HYH q0 y0 y1 y2;go_wp2_with (with_reducible show wpList _ _ _ (Oper.mk _ (Op.store _ (Operand.tmp 5) _) _ _ _ _::_) _ _;refine wpList_store_row rfl 25 _ _ rfl (w.heap.size+2) #[.slice a7 n7 c7] ?_ ?_ 25 _ hbox ?_ ?_ ?_ ?_)
     all_goals (first | rfl | kernel_rfl | exact A7 | skip)
     go_roundw;case rel=>exact⟨j+1,k6,.slice a7 n7 c7,bs7,by go_num,by omega,by omega,by omega,HPT.out⟩
     case measure=>simp[intOf];omega
   ·have y2:=Ab HY5.box 2;simp only[List.getElem?_toArray,List.getElem?_cons_zero,List.getElem?_cons_succ]at y2;by_cases hn0:nl=0
    ·have HS:=HS5;have HY:=HY5;clear HS5 HY5;have hn1:¬ ((nl:Int) > 0):=by omega
     clear hn0;go_upto_region 15 with fail
     clear y2;have hSl:=HS.Slt;have hYl:=HY.lt;have q0:=Ab HS.box 0;have y0:=Ab HY.box 0;have y1:=Ab HY.box 1;have y2:=Ab HY.box 2;simp only[List.getElem?_toArray,List.getElem?_cons_zero,List.getElem?_cons_succ]at q0 y0 y1 y2;have hWz:=HS.gr.size;have HPB:=C7 (x:=⟨bk,bn,.slice a3 nl c3,ls3⟩) HS.bin (by omega) HY.free.1;have HSH:=Aa HS;have HYH:=Aa HY;clear HS HY;simp only at HPB;go_wp2_with (go_at_call 54;refine HPB.mono ?_)
     rintro e w7 ⟨a7,n7,c7,bs7,rfl,h7,b7⟩;have HS7:=HSH.out.below b7;have hbox:=HS7.box;have HPT:=Aa (HS7.put (v':=.slice a7 n7 c7) (bs':=bs7) h7.2.2.2.1 (fun q hq=>h7.2.2.2.2 q (by omega) (HSH.out.abv q hq) (HYH.out.free.2.2 q hq)) (h7.2.2.2.2 _ hSl HSH.out.farS (HYH.out.free.2.1 _ (by simp))) (Hz h7.2.2.1 HYH.out.small HSH.out.small));have hlen7:=h7.2.1;clear HPB h7 HS7 HSH HYH q0 y0 y1 y2;go_wp2_with (with_reducible show wpList _ _ _ (Oper.mk _ (Op.store _ (Operand.tmp 5) _) _ _ _ _::_) _ _;refine wpList_store_row rfl 25 _ _ rfl (w.heap.size+2) #[.slice a7 n7 c7] ?_ ?_ 25 _ hbox ?_ ?_ ?_ ?_)
     all_goals (first | rfl | kernel_rfl | exact A7 | skip)
     go_roundw;case rel=>exact⟨j+1,kk+1,.slice a7 n7 c7,bs7,by go_num,by omega,by omega,by omega,HPT.out⟩
     case measure=>simp[intOf];omega
    ·have hn1:((nl:Int) > 0):=by omega
     have HSH:=Aa HS5;have HYH:=Aa HY5;clear HS5 HY5;obtain⟨g0,go,hrow3⟩:∃ g0 go,(Value.slice a3 nl c3)=.slice (some ⟨g0,go,none⟩) nl c3:=by
      have hr:=HYH.out.free.1.1;obtain⟨D,x,T,e2,hD⟩:=Br ls3 0 (by have:=HL3.out;omega);rw[HL3.out,e2]at hr;obtain⟨b',off',eb,_,_⟩:=hr.line;cases eb
      exact⟨b',off',rfl⟩
     cases hrow3
     go_upto_region 14 with fail
     clear y2;refine Acn (B:=B) (w1:=w1) (S:=w.heap.size+2) HSH.out HYH.out HFY.out HL3.out (by omega) (by omega) (by omega) (by kernel_rfl) (by kernel_rfl) (by kernel_rfl) ?_;intro u qa m cc ls9 k9 w9 a' ha' hk9 HS HY;simp only[Aq,Fb,List.setIfInBounds_toArray,List.set_cons_zero,List.set_cons_succ]at ha';subst ha';clear HSH HYH;have hSl:=HS.Slt;have hYl:=HY.lt;have q0:=Ab HS.box 0;have y0:=Ab HY.box 0;have y1:=Ab HY.box 1;have y2:=Ab HY.box 2;simp only[List.getElem?_toArray,List.getElem?_cons_zero,List.getElem?_cons_succ]at q0 y0 y1 y2;have hWz:=HS.gr.size;have HPB:=C7 (x:=⟨bk,bn,.slice qa m cc,ls9⟩) HS.bin (by omega) HY.free.1;have HSH:=Aa HS;have HYH:=Aa HY;clear HS HY;simp only at HPB;go_wp2_with (go_at_call 54;refine HPB.mono ?_)
     rintro e w7 ⟨a7,n7,c7,bs7,rfl,h7,b7⟩;have HS7:=HSH.out.below b7;have hbox:=HS7.box;have HPT:=Aa (HS7.put (v':=.slice a7 n7 c7) (bs':=bs7) h7.2.2.2.1 (fun q hq=>h7.2.2.2.2 q (by omega) (HSH.out.abv q hq) (HYH.out.free.2.2 q hq)) (h7.2.2.2.2 _ hSl HSH.out.farS (HYH.out.free.2.1 _ (by simp))) (Hz h7.2.2.1 HYH.out.small HSH.out.small));have hlen7:=h7.2.1;clear HPB h7 HS7 HSH HYH q0 y0 y1 y2;go_wp2_with (with_reducible show wpList _ _ _ (Oper.mk _ (Op.store _ (Operand.tmp 5) _) _ _ _ _::_) _ _;refine wpList_store_row rfl 25 _ _ rfl (w.heap.size+2) #[.slice a7 n7 c7] ?_ ?_ 25 _ hbox ?_ ?_ ?_ ?_)
     all_goals (first | rfl | kernel_rfl | exact A7 | skip)
     go_roundw;case rel=>exact⟨j+1,k9,.slice a7 n7 c7,bs7,by go_num,by omega,by omega,by omega,HPT.out⟩
     case measure=>simp[intOf];omega
   ·have n0:((y:Int) == 0)=false:=by rw[beq_eq_false_iff_ne];omega
    have n1:((y:Int) == 1)=false:=by rw[beq_eq_false_iff_ne];omega
    have n2:((y:Int) == 2)=false:=by rw[beq_eq_false_iff_ne];omega
    have HS:=HS5;have HY:=HY5;clear HS5 HY5;have hSl:=HS.Slt;have hYl:=HY.lt;have q0:=Ab HS.box 0;have y0:=Ab HY.box 0;have y1:=Ab HY.box 1;have y2:=Ab HY.box 2;simp only[List.getElem?_toArray,List.getElem?_cons_zero,List.getElem?_cons_succ]at q0 y0 y1 y2;have hWz:=HS.gr.size;have HPB:=C7 (x:=⟨bk,bn,.slice a3 nl c3,ls3⟩) HS.bin (by omega) HY.free.1;have HSH:=Aa HS;have HYH:=Aa HY;clear HS HY;simp only at HPB;go_wp2_with (go_at_call 54;refine HPB.mono ?_)
    rintro e w7 ⟨a7,n7,c7,bs7,rfl,h7,b7⟩;have HS7:=HSH.out.below b7;have hbox:=HS7.box;have HPT:=Aa (HS7.put (v':=.slice a7 n7 c7) (bs':=bs7) h7.2.2.2.1 (fun q hq=>h7.2.2.2.2 q (by omega) (HSH.out.abv q hq) (HYH.out.free.2.2 q hq)) (h7.2.2.2.2 _ hSl HSH.out.farS (HYH.out.free.2.1 _ (by simp))) (Hz h7.2.2.1 HYH.out.small HSH.out.small));have hlen7:=h7.2.1;clear HPB h7 HS7 HSH HYH q0 y0 y1 y2;go_wp2_with (with_reducible show wpList _ _ _ (Oper.mk _ (Op.store _ (Operand.tmp 5) _) _ _ _ _::_) _ _;refine wpList_store_row rfl 25 _ _ rfl (w.heap.size+2) #[.slice a7 n7 c7] ?_ ?_ 25 _ hbox ?_ ?_ ?_ ?_)
    all_goals (first | rfl | kernel_rfl | exact A7 | skip)
    go_roundw;case rel=>exact⟨j+1,kk+1,.slice a7 n7 c7,bs7,by go_num,by omega,by omega,by omega,HPT.out⟩
    case measure=>simp[intOf];omega
  ·obtain rfl:j=n:=by omega
   have hlt':¬ ((j:Int)<(j:Int)):=by omega
   have HP:=Bn B p kk 3 wr HS.rd (by omega) (by omega) (by omega);have HSH:=Aa HS;clear HS;go_wp2_with (go_at_call 44;refine HP.mono ?_)
   rintro e w3 ⟨n0,hn0,rfl,hr3,hg3⟩;have HS3:=Aa (HSH.out.grown hg3 hr3);clear HP HSH hr3 hg3 cS zsr;go_wp2;go_loopw [9] (fun i wr=>Ahv B p kk w1 (w.heap.size+2) i wr) (fun i _=>(intOf i).toNat)
   case atStart=>exact⟨n0,kk+1,.slice xa cs.length xc,cs,rfl,by omega,by omega,by omega,HS3.out⟩
   case round =>
    obtain⟨m,k2,v,ds,rfl,hm2,hdl,hk2,HS⟩:=hrel;obtain⟨ta,tc,rfl⟩:=HS.bin.1.form;have c0:=Ab HS.box 0;simp only[List.getElem?_toArray,List.getElem?_cons_zero]at c0;clear HS3;cases m with
    | zero =>
     have HC:=Gq HS.bin ⟨by omega,HS.small⟩;have HSH:=Aa HS;have hWz:=HS.gr.size;have zW:=(HS.gr.block (w.heap.size+1) (by omega) (by intro e;have:=Option.some.inj e;omega)).trans zr;clear HS;go_wp2_with (go_at_call 55;refine HC.mono ?_)
     first | rintro e w9 v9 rfl bs9 hp9 o9 b9 | rintro e w9 v9 bs9 rfl hp9 o9 b9 | rintro e w9 ⟨v9,bs9,rfl,hp9,o9,b9⟩
     have z9:=(b9.block (w.heap.size+1) (by omega)).trans zW;obtain⟨a9,c9,rfl,_⟩:=Ai o9.row;have HO:=Aa (HSH.out.out (d:=7000) (k:=k) s1 G1 hp (by omega) (by omega) hp9 o9 b9 #[.slice a9 bs9.length c9]);clear HC HSH o9 hp9 b9 zW;generalize bs9.length=n9 at *;go_wp2_with (with_reducible show wpList _ _ _ (Oper.mk _ (Op.store _ (Operand.tmp 4) _) _ _ _ _::_) _ _;refine wpList_store_row rfl 25 _ _ rfl (w.heap.size+1) #[.slice a9 n9 c9] ?_ ?_ 25 _ z9 ?_ ?_ ?_ ?_)
     all_goals (first | rfl | kernel_rfl | exact A7 | skip)
     have z5:(w9.setRow (w.heap.size+1) #[.slice a9 n9 c9]).heap[w.heap.size+1]?=some (.cells #[.slice a9 n9 c9] 25 (0,0)):=setRow_heap _ _ _ _ _ _ z9;have y0:=Ab z5 0;simp only[List.getElem?_toArray,List.getElem?_cons_zero]at y0;generalize w9.setRow (w.heap.size+1) #[.slice a9 n9 c9]=W at HO y0 z5 ⊢;exact bodyPost_ret (v:=.agg #[.slice a9 n9 c9]) (by simp[results,Tryz.results45,go_sem,y0]) rfl HO.out
    | succ m =>
     have hm1:((m+1:Nat):Int) > 0:=by omega
     have HD:=Ho B p k2 wr HS.rd (by omega);have HSH:=Aa HS;have hSr:=HS.Slt;have hw1r:=HS.gr.size;clear HS;go_wp2_with (go_at_call 106;refine HD.mono ?_)
     rintro e w4 ⟨b,k4,rfl,hk4,hr4,hg4,⟨hbl,hbf⟩,hbn,hbl7,hbs,_⟩;obtain⟨ba,bc,eb⟩:=hbl.1.form;obtain⟨bk,bn,bv,bl⟩:=b;simp only at hbl hbf hbn hbl7 hbs eb;subst eb;have HS4:=HSH.out.grown hg4 hr4;have hg4s:=hg4.size;have bx:=(Below.refl w4.heap.size w4).alloc (Nat.le_refl _) (.cells #[.string bk,.string bn,.slice ba bl.length bc] 46);have HS5:=HS4.below bx;have xb:=Al w4 (.cells #[.string bk,.string bn,.slice ba bl.length bc] 46);have l0:=Ab xb 0;have l1:=Ab xb 1;have l2:=Ab xb 2;have c5:=Ab HS5.box 0;simp only[List.getElem?_toArray,List.getElem?_cons_zero,List.getElem?_cons_succ]at l0 l1 l2 c5;have HBL:=Aa (hbl.below bx);have HBF:=Aa hbf;have HSB:=Aa (show E5 bn bl from(show E4 ⟨bk,bn,.slice ba bl.length bc,bl⟩ from⟨by simp only;omega,hbl7,hbs⟩).x);have HF:=Qe bk bn HS5.bin (by omega);have HS5H:=Aa HS5;have hz4:(w4.alloc (.cells #[.string bk,.string bn,.slice ba bl.length bc] 46)).heap.size=w4.heap.size+1:=by simp
     clear HD HSH HS4 HS5 hbl hbf hbs hr4 hg4 bx xb c0;generalize hnl:bl.length=nl at *;clear hnl;generalize hw5:w4.alloc (.cells #[.string bk,.string bn,.slice ba nl bc] 46)=w5 at *;go_wp2_with (go_at_call 52;(try rw[hw5]);refine HF.mono ?_)
     first | rintro e w6 hf b6 | rintro e w6 ⟨hf,b6⟩
     have HS6:=HS5H.out.below b6;have e0:=(b6.cell (World.block_lt_of_cell? _ _ l0)).trans l0;have e1:=(b6.cell (World.block_lt_of_cell? _ _ l1)).trans l1;have e2:=(b6.cell (World.block_lt_of_cell? _ _ l2)).trans l2;have e3:=(b6.cell (World.block_lt_of_cell? _ _ c5)).trans c5;have hz6:=b6.size;have HBL6:=Aa (HBL.out.below b6);have HS6H:=Aa HS6;clear HF HS5H HBL l0 l1 l2 c5 HS6 hw5;rcases hf with ⟨_,rfl⟩ | ⟨D,x,T,_,_,rfl⟩
     ·by_cases h60:ds.length<60
      ·have h60':((ds.length:Int)<60):=by omega
       have HPB:=C7 (x:=⟨bk,bn,.slice ba nl bc,bl⟩) HS6H.out.bin (by omega) HBL6.out;go_wp2_with (go_at_call 54;refine HPB.mono ?_)
       rintro e w7 ⟨a7,n7,c7,bs7,rfl,h7,b7⟩;have HS7:=HS6H.out.below b7;have hbox:=HS7.box;have HPT:=Aa (HS7.put (v':=.slice a7 n7 c7) (bs':=bs7) h7.2.2.2.1 (fun q hq=>h7.2.2.2.2 q (by omega) (HS6H.out.abv q hq) (HBF.out q (by omega))) (h7.2.2.2.2 _ (by omega) HS6H.out.farS (HBF.out _ hSr)) (Hz h7.2.2.1 HSB.out HS6H.out.small));have hlen7:=h7.2.1;clear HPB h7 HS7 HS6H HBL6 e0 e1 e2 e3;go_wp2_with (with_reducible show wpList _ _ _ (Oper.mk _ (Op.store _ (Operand.tmp 5) _) _ _ _ _::_) _ _;refine wpList_store_row rfl 25 _ _ rfl (w.heap.size+2) #[.slice a7 n7 c7] ?_ ?_ 25 _ hbox ?_ ?_ ?_ ?_)
       all_goals (first | rfl | kernel_rfl | exact A7 | skip)
       go_roundw;case rel=>exact⟨m,k4,.slice a7 n7 c7,bs7,by go_num,by omega,by omega,by omega,HPT.out⟩
       case measure=>simp[intOf]
      ·have h60':¬ ((ds.length:Int)<60):=by omega
       clear e0 e1 e2;go_wp2;go_roundw;case rel=>exact⟨m,k4,_,ds,by go_num,by omega,by omega,by omega,HS6H.out⟩
       case measure=>simp[intOf]
     ·have hnn:¬ ((D.length:Int)<0):=by omega
      clear e0 e1 e2 e3;go_wp2;go_roundw;case rel=>exact⟨m,k4,_,ds,by go_num,by omega,by omega,by omega,HS6H.out⟩
      case measure=>simp[intOf]
end Go.Proofs.YtpdahhnjhggocaaGreatDoor
