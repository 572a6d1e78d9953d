import Derived.Test.YtpdahhnjhggocaaGreatDoorMu16
import Derived.Handy
open Go.Proofs.Tryz
open Go.Value renaming string->aA,slice->aB,agg->aM,tuple->bI,slice->bZ
open List renaming getElem?_cons_zero->aC,getElem?_toArray->aD,getElem?_cons_succ->aE,setIfInBounds_toArray->aK,length_map->aL,set_cons_zero->aP,map_append->aQ,append_nil->aS,mem_singleton->aU,map_singleton->aV,mem_append->aZ,mem_cons_self->bA,flatMap_append->bC,set_cons_succ->bD,length_append->bE,take_length->bF,flatMap_singleton->bG,mem_filter->bO,getElem?_append_right->bP,map_cons->bQ,getElem?_eq_getElem->bR,length_eq_zero_iff->bS,perm_append_comm->bT,length_filter_le->bU,mem_cons_of_mem->bV,append_assoc->bY,map_map->cA
open Go.World renaming block_lt_of_cell?->aF,size_alloc->aN
open Nat renaming le_refl->aG,ne_of_lt->aX,le_of_lt->aY,ne_of_gt->bK,le_trans->bL,sub_self->cB,zero_le->cC
open Option renaming none->aH,some->aW
open Go.RowKit.Below renaming refl->aI
open Go.Obj renaming cells->aJ
open Go.Instr renaming typeAssert->aO,field->bB
open Go.Ending renaming returned->aR
open Int renaming natCast_add->aT
open Go.NoPanic renaming normal->bH
open Go.Operand renaming tmp->bJ
open Ne renaming symm->bM
open Bool renaming and_eq_true->bN
open Go.Op renaming store->bW
open Go.Oper renaming mk->bX
namespace Go.Proofs.YtpdahhnjhggocaaGreatDoor
open Go.RowKit
set_option maxHeartbeats 16000000
set_option maxRecDepth 100000
variable {w w':World}{g q m c:Nat}{cs:Array Value}{ls:List LAt}
theorem EF(k n:ByteArray)(w:World):Calls prog 315 #[aM #[aA k,aA n]] w fun e w'=>e=aR (aM #[aA k,aA n])/\Below w.heap.size w w':=by
 go_enter func315,ntmps315;go_wp2;have a:=Al (w.alloc (aJ #[aA k,aA n] 73)) (aJ #[aA k,aA n] 73);rw[aN]at a;have b:=Ab a 0;have c:=Ab a 1;simp only[aD,aC,aE]at b c;exact bodyPost_ret (v:=aM #[aA k,aA n]) (by simp[results,results315,go_sem,b,c]) rfl ⟨rfl,((aI w.heap.size w).alloc (aG _) _).alloc (by simp) _⟩
def AA(w:World)(g:Nat)(cs:Array Value)(T:TypeId):Prop:=w.heap[g]?=aW (aJ cs T (0,0))
theorem AA.lt{T:TypeId}(h:AA w g cs T):g<w.heap.size:=(Array.getElem?_eq_some_iff.1 h).1
theorem AA.V{T:TypeId}(h:AA w g cs T)(a:Below w.heap.size w w'):AA w' g cs T:=(a.block g h.lt).trans h
theorem AA.new(w:World)(cs:Array Value)(T:TypeId):AA (w.alloc (aJ cs T)) w.heap.size cs T:=Al w _
theorem AA.set{T:TypeId}(h:AA w g cs T)(i:Nat)(v:Value):AA (w.setCell ⟨g,i,aH⟩ v) g (cs.setIfInBounds i v) T:=heap_setCell_same w g i cs T v h
theorem AA.other{T:TypeId}(h:AA w g cs T)(i:Nat)(v:Value)(a:g≠q):AA (w.setCell ⟨q,i,aH⟩ v) g cs T:=(heap_setCell_other w ⟨q,i,aH⟩ g v a).trans h
theorem JN(p:Value)(W:World):(aO (.iface 182 p) 91 182 true).run prog W=.ok (bI #[p,.bool true]) W:=by kernel_rfl
theorem TE(p:Value)(W:World):(aO (.iface 185 p) 91 182 true).run prog W=.ok (bI #[aM #[aA ⟨#[]⟩,aA ⟨#[]⟩],.bool false]) W:=by kernel_rfl
theorem N7(p:Value)(W:World):(aO (.iface 185 p) 91 185 true).run prog W=.ok (bI #[p,.bool true]) W:=by kernel_rfl
theorem Li(p:Value)(W:World):(aO (.iface 188 p) 91 182 true).run prog W=.ok (bI #[aM #[aA ⟨#[]⟩,aA ⟨#[]⟩],.bool false]) W:=by kernel_rfl
theorem N8(p:Value)(W:World):(aO (.iface 188 p) 91 185 true).run prog W=.ok (bI #[aM #[aA ⟨#[]⟩,aA ⟨#[]⟩,aB aH 0 0],.bool false]) W:=by kernel_rfl
theorem NA(p:Value)(W:World):(aO (.iface 188 p) 91 188 true).run prog W=.ok (bI #[p,.bool true]) W:=by kernel_rfl
theorem II(p:Value)(W:World):(aO (.iface 190 p) 91 182 true).run prog W=.ok (bI #[aM #[aA ⟨#[]⟩,aA ⟨#[]⟩],.bool false]) W:=by kernel_rfl
theorem JO(p:Value)(W:World):(aO (.iface 190 p) 91 185 true).run prog W=.ok (bI #[aM #[aA ⟨#[]⟩,aA ⟨#[]⟩,aB aH 0 0],.bool false]) W:=by kernel_rfl
theorem JP(p:Value)(W:World):(aO (.iface 190 p) 91 188 true).run prog W=.ok (bI #[aM #[aA ⟨#[]⟩,aA ⟨#[]⟩,aA ⟨#[]⟩,aB aH 0 0],.bool false]) W:=by kernel_rfl
theorem Hw(p:Value)(W:World):(aO (.iface 190 p) 91 190 true).run prog W=.ok (bI #[p,.bool true]) W:=by kernel_rfl
theorem Yp(k n:ByteArray)(w:World):Calls prog 65 #[.iface 182 (aM #[aA k,aA n])] w fun e w'=>e=aR (aM #[.int .i64 1,aA k,aA n,aA ⟨#[]⟩,aB aH 0 0])/\Below w.heap.size w w':=by
 have h:=fun W=>EF k n W
 have i:=(aI w.heap.size w).alloc (aG _) (aJ #[.int .i64 0,aA ⟨#[]⟩,aA ⟨#[]⟩,aA ⟨#[]⟩,aB aH 0 0] 93);have t:=AA.new w #[.int .i64 0,aA ⟨#[]⟩,aA ⟨#[]⟩,aA ⟨#[]⟩,aB aH 0 0] 93;have t0:=fun W=>JN (aM #[aA k,aA n]) W
 have P:∀W,(bB 73 (aM #[aA k,aA n]) 0).run prog W=.ok (aA k) W:=fun W=>by kernel_rfl
 have Q:∀W,(bB 73 (aM #[aA k,aA n]) 1).run prog W=.ok (aA n) W:=fun W=>by kernel_rfl
 go_enter func65,ntmps65;go_upto_region 1 with fail
 generalize w.alloc (aJ #[.int .i64 0,aA ⟨#[]⟩,aA ⟨#[]⟩,aA ⟨#[]⟩,aB aH 0 0] 93)=W1 at *;go_wp2_with (go_at_call 315;refine(h _).mono ?_)
 rintro e w2 ⟨rfl,d⟩;go_wp2_with (go_at_call 315;refine(h _).mono ?_)
 rintro e w3 ⟨rfl,j⟩;have l:=i.trans ((d.trans (j.mono d.size)).mono i.size);have m:=(t.V d).V j;have o:=(aI w3.heap.size w3).alloc (aG _) (aJ #[.int .i64 0,aA k,aA n,aA ⟨#[]⟩,aB aH 0 0] 93);have p:=AA.new w3 #[.int .i64 0,aA k,aA n,aA ⟨#[]⟩,aB aH 0 0] 93;have u:=m.V o;have r:=l.trans (o.mono l.size);have x:w.heap.size<w3.heap.size:=m.lt;clear t m d j o i l h;go_upto_region 4 with fail
 generalize w3.alloc (aJ #[.int .i64 0,aA k,aA n,aA ⟨#[]⟩,aB aH 0 0] 93)=a at *;generalize w3.heap.size=C at *;have f:=(aI a.heap.size a).alloc (aG _) (aJ #[aA k,aA n] 182);have g:=p.V f;have y:=u.V f;have J:=AA.new a #[aA k,aA n] 182;have z:=r.trans (f.mono r.size);have R:C<a.heap.size:=p.lt;clear p u f r;go_upto_region 5 with fail
 generalize a.alloc (aJ #[aA k,aA n] 182)=K at *;generalize a.heap.size=S at *;have L:=Ad g 0;have A:=Ab g 0;simp only[aD,aC]at A;have b:=g.set 0 (.int .i64 1);have B:=y.other 0 (.int .i64 1) (aX x);have D:=AP z ⟨C,0,aH⟩ (aY x) (.int .i64 1);simp only[aK,aP]at b;go_upto_region 19 with fail
 generalize K.setCell ⟨C,0,aH⟩ (.int .i64 1)=s at *;clear L A g y z J;have c0:=Ab b 0;have M:=Ab b 1;have c2:=Ab b 2;have c3:=Ab b 3;have c4:=Ab b 4;simp only[aD,aC,aE]at c0 M c2 c3 c4;have N:=D.grown (E1 s w.heap.size #[.int .i64 1,aA k,aA n,aA ⟨#[]⟩,aB aH 0 0]) D.size (fun q O=>by cases O;exact aG _);have c:=setRow_heap s w.heap.size _ #[.int .i64 1,aA k,aA n,aA ⟨#[]⟩,aB aH 0 0] _ _ B;go_wp2_with (with_reducible show wpList _ _ _ (bX _ (bW _ (bJ 2) _) _ _ _ _::_) _ _;refine wpList_store_row rfl 93 (.tmp 2) (.tmp 46) rfl w.heap.size #[.int .i64 1,aA k,aA n,aA ⟨#[]⟩,aB aH 0 0] ?_ ?_ 93 #[.int .i64 0,aA ⟨#[]⟩,aA ⟨#[]⟩,aA ⟨#[]⟩,aB aH 0 0] ?_ ?_ ?_ ?_ ?_)
 all_goals (first | exact B | rfl | kernel_rfl | skip)
 generalize s.setRow w.heap.size #[.int .i64 1,aA k,aA n,aA ⟨#[]⟩,aB aH 0 0]=T at *;have E:=Ab c 0;have F:=Ab c 1;have G:=Ab c 2;have H:=Ab c 3;have I:=Ab c 4;simp only[aD,aC,aE]at E F G H I;exact bodyPost_ret (v:=aM #[.int .i64 1,aA k,aA n,aA ⟨#[]⟩,aB aH 0 0]) (by simp[results,results65,go_sem,E,F,G,H,I]) rfl ⟨rfl,N⟩
theorem V7(k n key:ByteArray)(w:World):Calls prog 65 #[.iface 190 (aM #[aA k,aA n,aA key])] w fun e w'=>e=aR (aM #[.int .i64 4,aA k,aA n,aA key,aB aH 0 0])/\Below w.heap.size w w':=by
 have l:=fun W=>EF k n W
 have m:=(aI w.heap.size w).alloc (aG _) (aJ #[.int .i64 0,aA ⟨#[]⟩,aA ⟨#[]⟩,aA ⟨#[]⟩,aB aH 0 0] 93);have z:=AA.new w #[.int .i64 0,aA ⟨#[]⟩,aA ⟨#[]⟩,aA ⟨#[]⟩,aB aH 0 0] 93;have t0:=fun W=>II (aM #[aA k,aA n,aA key]) W
 have Y:=fun W=>JO (aM #[aA k,aA n,aA key]) W
 have t2:=fun W=>JP (aM #[aA k,aA n,aA key]) W
 have t3:=fun W=>Hw (aM #[aA k,aA n,aA key]) W
 have Z:∀W,(bB 73 (aM #[aA k,aA n]) 0).run prog W=.ok (aA k) W:=fun W=>by kernel_rfl
 have aa:∀W,(bB 73 (aM #[aA k,aA n]) 1).run prog W=.ok (aA n) W:=fun W=>by kernel_rfl
 go_enter func65,ntmps65;go_upto_region 1 with fail
 generalize w.alloc (aJ #[.int .i64 0,aA ⟨#[]⟩,aA ⟨#[]⟩,aA ⟨#[]⟩,aB aH 0 0] 93)=W1 at *;go_wp2_with (go_at_call 315;refine(l _).mono ?_)
 rintro e w2 ⟨rfl,g⟩;go_wp2_with (go_at_call 315;refine(l _).mono ?_)
 rintro e w3 ⟨rfl,o⟩;have p:=m.trans ((g.trans (o.mono g.size)).mono m.size);have r:=(z.V g).V o;have s:=(aI w3.heap.size w3).alloc (aG _) (aJ #[.int .i64 0,aA k,aA n,aA ⟨#[]⟩,aB aH 0 0] 93);have t:=AA.new w3 #[.int .i64 0,aA k,aA n,aA ⟨#[]⟩,aB aH 0 0] 93;have A:=r.V s;have u:=p.trans (s.mono p.size);have h:w.heap.size<w3.heap.size:=r.lt;clear z r g o s m p l;go_upto_region 16 with fail
 generalize w3.alloc (aJ #[.int .i64 0,aA k,aA n,aA ⟨#[]⟩,aB aH 0 0] 93)=a at *;generalize w3.heap.size=C at *;have i:=(aI a.heap.size a).alloc (aG _) (aJ #[aA k,aA n,aA key] 190);have j:=t.V i;have B:=A.V i;have D:=AA.new a #[aA k,aA n,aA key] 190;have E:=u.trans (i.mono u.size);have Q:C<a.heap.size:=t.lt;clear t A i u;go_upto_region 17 with fail
 generalize a.alloc (aJ #[aA k,aA n,aA key] 190)=R at *;generalize a.heap.size=S at *;have x:=Ad j 0;have c:=Ab j 0;simp only[aD,aC]at c;have d:=j.set 0 (.int .i64 4);have F:=B.other 0 (.int .i64 4) (aX h);have G:=AP E ⟨C,0,aH⟩ (aY h) (.int .i64 4);simp only[aK,aP]at d;go_upto_region 18 with fail
 have H:=D.other (q:=C) 0 (.int .i64 4) (bK Q);generalize R.setCell ⟨C,0,aH⟩ (.int .i64 4)=T at *;clear x c j B E D;have I:=Ab H 2;simp only[aD,aC,aE]at I;have x:=Ad d 3;have c:=Ab d 3;simp only[aD,aC,aE]at c;have b:=d.set 3 (aA key);have J:=F.other 3 (aA key) (aX h);have K:=AP G ⟨C,3,aH⟩ (aY h) (aA key);simp only[aK,aP,bD]at b;go_upto_region 19 with fail
 generalize T.setCell ⟨C,3,aH⟩ (aA key)=y at *;clear x c d F G H I;have c0:=Ab b 0;have U:=Ab b 1;have c2:=Ab b 2;have c3:=Ab b 3;have c4:=Ab b 4;simp only[aD,aC,aE]at c0 U c2 c3 c4;have V:=K.grown (E1 y w.heap.size #[.int .i64 4,aA k,aA n,aA key,aB aH 0 0]) K.size (fun q X=>by cases X;exact aG _);have f:=setRow_heap y w.heap.size _ #[.int .i64 4,aA k,aA n,aA key,aB aH 0 0] _ _ J;go_wp2_with (with_reducible show wpList _ _ _ (bX _ (bW _ (bJ 2) _) _ _ _ _::_) _ _;refine wpList_store_row rfl 93 (.tmp 2) (.tmp 46) rfl w.heap.size #[.int .i64 4,aA k,aA n,aA key,aB aH 0 0] ?_ ?_ 93 #[.int .i64 0,aA ⟨#[]⟩,aA ⟨#[]⟩,aA ⟨#[]⟩,aB aH 0 0] ?_ ?_ ?_ ?_ ?_)
 all_goals (first | exact J | rfl | kernel_rfl | skip)
 generalize y.setRow w.heap.size #[.int .i64 4,aA k,aA n,aA key,aB aH 0 0]=ab at *;have L:=Ab f 0;have M:=Ab f 1;have N:=Ab f 2;have O:=Ab f 3;have P:=Ab f 4;simp only[aD,aC,aE]at L M N O P;exact bodyPost_ret (v:=aM #[.int .i64 4,aA k,aA n,aA key,aB aH 0 0]) (by simp[results,results65,go_sem,L,M,N,O,P]) rfl ⟨rfl,V⟩
theorem Aak(k n:ByteArray){a:Option Addr}(h:An w (aB a m c) ls)(ai:Ah ls):Calls prog 65 #[.iface 185 (aM #[aA k,aA n,aB a m c])] w fun e w'=>∃v' ls',e=aR (aM #[.int .i64 2,aA k,aA n,aA ⟨#[]⟩,v'])/\ls'.map LAt.I=ls.map LAt.I/\A5 w.heap.size w' v' ls'/\Below w.heap.size w w':=by
 have y:=fun W=>EF k n W
 have z:=(aI w.heap.size w).alloc (aG _) (aJ #[.int .i64 0,aA ⟨#[]⟩,aA ⟨#[]⟩,aA ⟨#[]⟩,aB aH 0 0] 93);have L:=AA.new w #[.int .i64 0,aA ⟨#[]⟩,aA ⟨#[]⟩,aA ⟨#[]⟩,aB aH 0 0] 93;have t0:=fun W=>TE (aM #[aA k,aA n,aB a m c]) W
 have av:=fun W=>N7 (aM #[aA k,aA n,aB a m c]) W
 have aw:∀W,(bB 73 (aM #[aA k,aA n]) 0).run prog W=.ok (aA k) W:=fun W=>by kernel_rfl
 have ax:∀W,(bB 73 (aM #[aA k,aA n]) 1).run prog W=.ok (aA n) W:=fun W=>by kernel_rfl
 go_enter func65,ntmps65;go_upto_region 1 with fail
 generalize w.alloc (aJ #[.int .i64 0,aA ⟨#[]⟩,aA ⟨#[]⟩,aA ⟨#[]⟩,aB aH 0 0] 93)=W1 at *;go_wp2_with (go_at_call 315;refine(y _).mono ?_)
 rintro e w2 ⟨rfl,o⟩;go_wp2_with (go_at_call 315;refine(y _).mono ?_)
 rintro e w3 ⟨rfl,A⟩;have B:=z.trans ((o.trans (A.mono o.size)).mono z.size);have D:=(L.V o).V A;have E:=(aI w3.heap.size w3).alloc (aG _) (aJ #[.int .i64 0,aA k,aA n,aA ⟨#[]⟩,aB aH 0 0] 93);have F:=AA.new w3 #[.int .i64 0,aA k,aA n,aA ⟨#[]⟩,aB aH 0 0] 93;have M:=D.V E;have G:=B.trans (E.mono B.size);have p:w.heap.size<w3.heap.size:=D.lt;clear L D o A E z B y;go_upto_region 7 with fail
 generalize w3.alloc (aJ #[.int .i64 0,aA k,aA n,aA ⟨#[]⟩,aB aH 0 0] 93)=g at *;generalize w3.heap.size=C at *;have r:=(aI g.heap.size g).alloc (aG _) (aJ #[aA k,aA n,aB a m c] 185);have s:=F.V r;have N:=M.V r;have O:=AA.new g #[aA k,aA n,aB a m c] 185;have P:=G.trans (r.mono G.size);have aj:C<g.heap.size:=F.lt;clear F M r G;go_upto_region 8 with fail
 generalize g.alloc (aJ #[aA k,aA n,aB a m c] 185)=ak at *;generalize g.heap.size=S at *;have H:=Ad s 0;have j:=Ab s 0;simp only[aD,aC]at j;have t:=s.set 0 (.int .i64 2);have Q:=N.other 0 (.int .i64 2) (aX p);have I:=AP P ⟨C,0,aH⟩ (aY p) (.int .i64 2);simp only[aK,aP]at t;go_upto_region 9 with fail
 have R:=O.other (q:=C) 0 (.int .i64 2) (bK aj);generalize ak.setCell ⟨C,0,aH⟩ (.int .i64 2)=J at *;clear H j s N P O;have T:=Ab R 2;simp only[aD,aC,aE]at T;have U:=CB (w:=J) (h.V I) ai;have al:C<J.heap.size:=t.lt;go_wp2_with (go_at_call 94;refine U.mono ?_)
 rintro e am ⟨ay,V,rfl,X,o8,u⟩;have x:=t.V u;have Y:=Q.V u;have Z:=I.trans (u.mono I.size);have aa:=Aa o8;have an:=Aa X;obtain⟨b,d,rfl,_⟩:=Ak o8.row;clear U R t Q T o8 X;generalize ao:V.length=f at *;clear ao;have H:=Ad x 4;have j:=Ab x 4;simp only[aD,aC,aE]at j;have i:=x.set 4 (aB b f d);have ab:=Y.other 4 (aB b f d) (aX p);have ac:=AP Z ⟨C,4,aH⟩ (aY p) (aB b f d);simp only[aK,aP,bD]at i;go_upto_region 19 with fail
 have ap:=Aa (((aa.out.setCell ⟨C,4,aH⟩ al (aB b f d)).setRow w.heap.size (by omega) #[.int .i64 2,aA k,aA n,aA ⟨#[]⟩,aB b f d]).mono (show w.heap.size<=J.heap.size by omega));generalize am.setCell ⟨C,4,aH⟩ (aB b f d)=K at *;clear H j x Y Z aa u;have c0:=Ab i 0;have aq:=Ab i 1;have c2:=Ab i 2;have c3:=Ab i 3;have c4:=Ab i 4;simp only[aD,aC,aE]at c0 aq c2 c3 c4;have ar:=ac.grown (E1 K w.heap.size #[.int .i64 2,aA k,aA n,aA ⟨#[]⟩,aB b f d]) ac.size (fun q au=>by cases au;exact aG _);have l:=setRow_heap K w.heap.size _ #[.int .i64 2,aA k,aA n,aA ⟨#[]⟩,aB b f d] _ _ ab;go_wp2_with (with_reducible show wpList _ _ _ (bX _ (bW _ (bJ 2) _) _ _ _ _::_) _ _;refine wpList_store_row rfl 93 (.tmp 2) (.tmp 46) rfl w.heap.size #[.int .i64 2,aA k,aA n,aA ⟨#[]⟩,aB b f d] ?_ ?_ 93 #[.int .i64 0,aA ⟨#[]⟩,aA ⟨#[]⟩,aA ⟨#[]⟩,aB aH 0 0] ?_ ?_ ?_ ?_ ?_)
 all_goals (first | exact ab | rfl | kernel_rfl | skip)
 generalize K.setRow w.heap.size #[.int .i64 2,aA k,aA n,aA ⟨#[]⟩,aB b f d]=az at *;have ad:=Ab l 0;have ae:=Ab l 1;have af:=Ab l 2;have ag:=Ab l 3;have ah:=Ab l 4;simp only[aD,aC,aE]at ad ae af ag ah;exact bodyPost_ret (v:=aM #[.int .i64 2,aA k,aA n,aA ⟨#[]⟩,aB b f d]) (by simp[results,results65,go_sem,ad,ae,af,ag,ah]) rfl ⟨_,V,rfl,an.out,ap.out,ar⟩
theorem Aal(k n key:ByteArray){a:Option Addr}(h:An w (aB a m c) ls)(ao:Ah ls):Calls prog 65 #[.iface 188 (aM #[aA k,aA n,aA key,aB a m c])] w fun e w'=>∃v' ls',e=aR (aM #[.int .i64 3,aA k,aA n,aA key,v'])/\ls'.map LAt.I=ls.map LAt.I/\A5 w.heap.size w' v' ls'/\Below w.heap.size w w':=by
 have A:=fun W=>EF k n W
 have B:=(aI w.heap.size w).alloc (aG _) (aJ #[.int .i64 0,aA ⟨#[]⟩,aA ⟨#[]⟩,aA ⟨#[]⟩,aB aH 0 0] 93);have N:=AA.new w #[.int .i64 0,aA ⟨#[]⟩,aA ⟨#[]⟩,aA ⟨#[]⟩,aB aH 0 0] 93;have t0:=fun W=>Li (aM #[aA k,aA n,aA key,aB a m c]) W
 have a1:=fun W=>N8 (aM #[aA k,aA n,aA key,aB a m c]) W
 have t2:=fun W=>NA (aM #[aA k,aA n,aA key,aB a m c]) W
 have a2:∀W,(bB 73 (aM #[aA k,aA n]) 0).run prog W=.ok (aA k) W:=fun W=>by kernel_rfl
 have a3:∀W,(bB 73 (aM #[aA k,aA n]) 1).run prog W=.ok (aA n) W:=fun W=>by kernel_rfl
 go_enter func65,ntmps65;go_upto_region 1 with fail
 generalize w.alloc (aJ #[.int .i64 0,aA ⟨#[]⟩,aA ⟨#[]⟩,aA ⟨#[]⟩,aB aH 0 0] 93)=W1 at *;go_wp2_with (go_at_call 315;refine(A _).mono ?_)
 rintro e w2 ⟨rfl,s⟩;go_wp2_with (go_at_call 315;refine(A _).mono ?_)
 rintro e w3 ⟨rfl,D⟩;have E:=B.trans ((s.trans (D.mono s.size)).mono B.size);have F:=(N.V s).V D;have G:=(aI w3.heap.size w3).alloc (aG _) (aJ #[.int .i64 0,aA k,aA n,aA ⟨#[]⟩,aB aH 0 0] 93);have H:=AA.new w3 #[.int .i64 0,aA k,aA n,aA ⟨#[]⟩,aB aH 0 0] 93;have O:=F.V G;have I:=E.trans (G.mono E.size);have i:w.heap.size<w3.heap.size:=F.lt;clear N F s D G B E A;go_upto_region 11 with fail
 generalize w3.alloc (aJ #[.int .i64 0,aA k,aA n,aA ⟨#[]⟩,aB aH 0 0] 93)=j at *;generalize w3.heap.size=C at *;have t:=(aI j.heap.size j).alloc (aG _) (aJ #[aA k,aA n,aA key,aB a m c] 188);have u:=H.V t;have P:=O.V t;have Q:=AA.new j #[aA k,aA n,aA key,aB a m c] 188;have R:=I.trans (t.mono I.size);have T:C<j.heap.size:=H.lt;clear H O t I;go_upto_region 12 with fail
 generalize j.alloc (aJ #[aA k,aA n,aA key,aB a m c] 188)=ap at *;generalize j.heap.size=S at *;have o:=Ad u 0;have g:=Ab u 0;simp only[aD,aC]at g;have p:=u.set 0 (.int .i64 3);have U:=P.other 0 (.int .i64 3) (aX i);have V:=AP R ⟨C,0,aH⟩ (aY i) (.int .i64 3);simp only[aK,aP]at p;go_upto_region 13 with fail
 have J:=Q.other (q:=C) 0 (.int .i64 3) (bK T);generalize ap.setCell ⟨C,0,aH⟩ (.int .i64 3)=aq at *;clear o g u P R Q;have X:=Ab J 2;simp only[aD,aC,aE]at X;have o:=Ad p 3;have g:=Ab p 3;simp only[aD,aC,aE]at g;have x:=p.set 3 (aA key);have Y:=U.other 3 (aA key) (aX i);have K:=AP V ⟨C,3,aH⟩ (aY i) (aA key);simp only[aK,aP,bD]at x;go_upto_region 14 with fail
 have Z:=J.other (q:=C) 3 (aA key) (bK T);generalize aq.setCell ⟨C,3,aH⟩ (aA key)=L at *;clear o g p U V J X;have aa:=Ab Z 3;simp only[aD,aC,aE]at aa;have ab:=CB (w:=L) (h.V K) ao;have ar:C<L.heap.size:=x.lt;go_wp2_with (go_at_call 94;refine ab.mono ?_)
 rintro e au ⟨a4,ac,rfl,ad,o8,y⟩;have z:=x.V y;have ae:=Y.V y;have af:=K.trans (y.mono K.size);have ag:=Aa o8;have av:=Aa ad;obtain⟨b,d,rfl,_⟩:=Ak o8.row;clear ab Z x Y aa o8 ad;generalize aw:ac.length=f at *;clear aw;have o:=Ad z 4;have g:=Ab z 4;simp only[aD,aC,aE]at g;have l:=z.set 4 (aB b f d);have ah:=ae.other 4 (aB b f d) (aX i);have ai:=AP af ⟨C,4,aH⟩ (aY i) (aB b f d);simp only[aK,aP,bD]at l;go_upto_region 19 with fail
 have ax:=Aa (((ag.out.setCell ⟨C,4,aH⟩ ar (aB b f d)).setRow w.heap.size (by omega) #[.int .i64 3,aA k,aA n,aA key,aB b f d]).mono (show w.heap.size<=L.heap.size by omega));generalize au.setCell ⟨C,4,aH⟩ (aB b f d)=M at *;clear o g z ae af ag y;have c0:=Ab l 0;have ay:=Ab l 1;have c2:=Ab l 2;have c3:=Ab l 3;have c4:=Ab l 4;simp only[aD,aC,aE]at c0 ay c2 c3 c4;have az:=ai.grown (E1 M w.heap.size #[.int .i64 3,aA k,aA n,aA key,aB b f d]) ai.size (fun q a0=>by cases a0;exact aG _);have r:=setRow_heap M w.heap.size _ #[.int .i64 3,aA k,aA n,aA key,aB b f d] _ _ ah;go_wp2_with (with_reducible show wpList _ _ _ (bX _ (bW _ (bJ 2) _) _ _ _ _::_) _ _;refine wpList_store_row rfl 93 (.tmp 2) (.tmp 46) rfl w.heap.size #[.int .i64 3,aA k,aA n,aA key,aB b f d] ?_ ?_ 93 #[.int .i64 0,aA ⟨#[]⟩,aA ⟨#[]⟩,aA ⟨#[]⟩,aB aH 0 0] ?_ ?_ ?_ ?_ ?_)
 all_goals (first | exact ah | rfl | kernel_rfl | skip)
 generalize M.setRow w.heap.size #[.int .i64 3,aA k,aA n,aA key,aB b f d]=a5 at *;have aj:=Ab r 0;have ak:=Ab r 1;have al:=Ab r 2;have am:=Ab r 3;have an:=Ab r 4;simp only[aD,aC,aE]at aj ak al am an;exact bodyPost_ret (v:=aM #[.int .i64 3,aA k,aA n,aA key,aB b f d]) (by simp[results,results65,go_sem,aj,ak,al,am,an]) rfl ⟨_,ac,rfl,av.out,ax.out,az⟩
variable {B n:Nat}{w0 w2 W w3:World}{v vk v3 v2:Value}
theorem Ur:(Tryz.prog.info? 91).map (fun i=>(i.zero,i.size,i.bytes))=aW (aW .nilIface,1,16):=by kernel_rfl
def Bl.step(c:Bl):Value :=
 if c.ak=1 then .iface 182 (aM #[aA c.aa,aA c.name])
 else if c.ak=2 then .iface 185 (aM #[aA c.aa,aA c.name,c.v])
 else if c.ak=3 then .iface 188 (aM #[aA c.aa,aA c.name,aA c.key,c.v])
 else .iface 190 (aM #[aA c.aa,aA c.name,aA c.key])
theorem Bl.step_one(c:Bl):c.step.oneCell'=true:=by
 unfold Bl.step;split
 ·rfl
 split
 ·rfl
 split <;> rfl
def Wl(w:World)(c:Bl):Prop:=(c.ak=1/\c.key=⟨#[]⟩/\c.ls=[])\/(c.ak=2/\c.key=⟨#[]⟩/\An w c.v c.ls)\/(c.ak=3/\An w c.v c.ls)\/(c.ak=4/\c.ls=[])
def Gw(w:World)(c:Bl):Prop:=(c.ak=1/\c.key=⟨#[]⟩/\c.ls=[])\/(c.ak=2/\c.key=⟨#[]⟩/\An w c.v c.ls)\/(c.ak=3/\∀x∈c.ls,BL w x)\/(c.ak=4/\c.ls=[])
def Bl.own(c:Bl):List MRow:=if c.ak=3 then [⟨c.v,115,2,c.ls.length,c.ls.flatMap LAt.cells⟩] else []
def EI(v:Value)(cs:List Bl):List MRow:=⟨v,91,1,cs.length,cs.map Bl.step⟩::cs.flatMap Bl.own
theorem Adt{cs:List Bl}(h:Az B w (EI v cs))(f:Below w0.heap.size w0 w){c:Bl}(g:c∈cs)(a:Gw w0 c):Wl w c:=by
 rcases a with a | ⟨h1,i,b⟩ | ⟨h1,b⟩ | a
 ·exact .inl a
 ·exact .inr (.inl ⟨h1,i,b.V f⟩)
 ·refine .inr (.inr (.inl ⟨h1,?_⟩));obtain⟨A,C,e⟩:=Ft Bl.own g;have j:Az B w (A++(c.own++C)):=by rw[<-e];exact Az.tail h
  have d:=(Az.right j).left;unfold Bl.own at d;rw[if_pos h1]at d;exact⟨AG (Az.head d),fun x k=>(b x k).V f⟩
 ·exact .inr (.inr (.inr a))
theorem NY(B:Nat)(w:World):Az B w (EI (aB aH 0 0) []):=⟨fun r a=>by rw[aU.1 a];exact World.ownsRow_nil _ _ 91 1,by simp[EI]⟩
theorem NZ{wc:World}{E:TypeId}{size n':Nat}{a b:List Value}{tl new rest:List MRow}(h:Az B wc (⟨vk,E,size,n,a⟩::(tl++rest)))(c:B<=wc.heap.size)(o2:Az wc.heap.size w2 new)(d:Below wc.heap.size wc w2)(e:Below w2.heap.size w2 W)
  (i:w3.ownsRow B E size v3 n' b) (f:W.grownBy w3 vk.ownBlock) (j:v3.ownBlock=vk.ownBlock\/v3.ownBlock=aW W.heap.size) :
  Az B w3 (⟨v3,E,size,n',b⟩::(tl++new++rest))/\Below B wc w3:=by
 have l:Az B w2 (new++(⟨vk,E,size,n,a⟩::(tl++rest))):=Az.join h o2 d c;have g:Az B w2 (⟨vk,E,size,n,a⟩::(tl++new++rest)):=l.perm (by
  rw[bY];exact List.perm_middle.trans ((List.perm_append_comm_assoc _ _ _).cons _))
 have m:=g.V e;have o:=m.grow (r':=⟨v3,E,size,n',b⟩) i f j;have p:=d.size;exact⟨o,((d.mono c).trans (e.mono (by omega))).grown f (bL c (bL p e.size)) (fun k q=>(Az.lt g (bA ..) q).1)⟩
theorem GT{wc:World}{done:List Bl}{x:Bl}{rest:List MRow}(a:Az B wc (EI vk done++rest))(b:B<=wc.heap.size)(o2:Az wc.heap.size w2 x.own)(c:Below wc.heap.size wc w2)(d:Below w2.heap.size w2 W)
  (e:w3.ownsRow B 91 1 v3 (done.length+1) (done.map Bl.step++[x.step])) (f:W.grownBy w3 vk.ownBlock) (g:v3.ownBlock=vk.ownBlock\/v3.ownBlock=aW W.heap.size) :
  Az B w3 (EI v3 (done++[x])++rest)/\Below B wc w3:=by
 have h:=NZ (tl:=done.flatMap Bl.own) (rest:=rest) a b o2 c d e f g;refine⟨?_,h.2⟩;unfold EI;rw[aQ,aV,bC,bG,bE];exact h.1
theorem Wm{wc:World}{done new:List Bl}(a:Az B wc (EI vk done))(b:B<=wc.heap.size)(o2:Az wc.heap.size w2 (EI v2 new))(c:Below wc.heap.size wc w2)(d:Below w2.heap.size w2 W)
  (e:w3.ownsRow B 91 1 v3 (done.length+new.length) (done.map Bl.step++new.map Bl.step)) (f:W.grownBy w3 vk.ownBlock) (g:v3.ownBlock=vk.ownBlock\/v3.ownBlock=aW W.heap.size) :
  Az B w3 (EI v3 (done++new))/\Below B wc w3:=by
 have h:=NZ (tl:=done.flatMap Bl.own) (rest:=[]) (by rw[aS];exact a) b (Az.tail o2) c d e f g;refine⟨?_,h.2⟩;unfold EI;rw[aQ,bC,bE];have:=h.1;rw[aS]at this;exact this
theorem RY{c:Bl}(h:Wl w c)(f:Ah c.ls):Calls prog 65 #[c.step] w fun e w'=>∃x:Bl,e=aR (aM #[.int .i64 x.ak,aA x.aa,aA x.name,aA x.key,x.v])/\x.I=c.I/\A5 w.heap.size w' x.v x.ls/\Ah x.ls/\Below w.heap.size w w':=by
 obtain⟨j,k,n,key,v,ls⟩:=c;unfold Wl at h;unfold Bl.step Bl.I;simp only at *;rcases h with ⟨rfl,rfl,rfl⟩ | ⟨rfl,rfl,h⟩ | ⟨rfl,h⟩ | ⟨rfl,rfl⟩
 ·exact(Yp k n w).mono fun e w' ⟨b,d⟩=>⟨⟨1,k,n,⟨#[]⟩,aB aH 0 0,[]⟩,b,rfl,P0 _ _,f,d⟩
 ·obtain⟨a,c,rfl⟩:=h.1.ae;exact(Aak k n h f).mono fun e w' ⟨v',ls',b,g,i,d⟩=>⟨⟨2,k,n,⟨#[]⟩,v',ls'⟩,b,by simp only[g],i,f.same g,d⟩
 ·obtain⟨a,c,rfl⟩:=h.1.ae;exact(Aal k n key h f).mono fun e w' ⟨v',ls',b,g,i,d⟩=>⟨⟨3,k,n,key,v',ls'⟩,b,by simp only[g],i,f.same g,d⟩
 ·exact(V7 k n key w).mono fun e w' ⟨b,d⟩=>⟨⟨4,k,n,key,aB aH 0 0,[]⟩,b,rfl,P0 _ _,f,d⟩
variable {h:Nat}{yk yn rk:ByteArray}{y:BAt}
theorem GU(k n:ByteArray)(a:Option Addr)(m c:Nat)(w:World):Calls prog 47 #[aM #[aA k,aA n,aB a m c]] w fun e w'=>e=aR (aM #[aA k,aA n])/\Below w.heap.size w w':=by
 go_enter func47,ntmps47;go_wp2;have b:=Al (w.alloc (aJ #[aA k,aA n,aB a m c] 46)) (aJ #[aA k,aA n] 73);rw[aN]at b;have d:=Ab b 0;have f:=Ab b 1;simp only[aD,aC,aE]at d f;exact bodyPost_ret (v:=aM #[aA k,aA n]) (by simp[results,results47,go_sem,d,f]) rfl ⟨rfl,((aI w.heap.size w).alloc (aG _) _).alloc (by simp) _⟩
theorem Abu{k:ByteArray}:∀ {P Q:List PLine},(∀x∈P,x.key=k)->(∀x∈Q,x.key=k)->P.map PLine.ws=Q.map PLine.ws->P=Q
 | [],[],_,_,_=>rfl
 | [],_::_,_,_,h=>by cases h
 | _::_,[],_,_,h=>by cases h
 | a::P,b::Q,h1,d,h=>by
  rw[bQ,bQ,List.cons.injEq]at h;have e:=Abu (fun x c=>h1 x (bV _ c)) (fun x c=>d x (bV _ c)) h.2;have f:=h1 a (bA ..);have g:=d b (bA ..);obtain⟨i,j⟩:=a;obtain⟨bk,l⟩:=b;simp only at f g h;rw[e,f,g,h.1]
theorem Xp{P:List PLine}{k:ByteArray}:∀x∈Iy P k,x.key=k:=fun x a=>XS (by
 have:=(bO.1 a).2;exact beq_iff_eq.1 this)
theorem Us{xs ys:List LAt}{P Q:List PLine}{k:ByteArray}(a:xs.map LAt.I=Iy P k)(b:ys.map LAt.I=Iy Q k):xs.map LAt.ws=ys.map LAt.ws↔Iy P k=Iy Q k:=by
 have c:xs.map LAt.ws=(Iy P k).map PLine.ws:=by rw[<-a,cA];rfl
 have d:ys.map LAt.ws=(Iy Q k).map PLine.ws:=by rw[<-b,cA];rfl
 rw[c,d];exact⟨fun h=>Abu Xp Xp h,fun h=>by rw[h]⟩
def GV(g h:Nat)(yk yn:ByteArray)(a:Value)(rk:ByteArray)(W:World):Prop:=W.cell? ⟨g,0,aH⟩=aW (aA yk)/\W.cell? ⟨g,1,aH⟩=aW (aA yn)/\W.cell? ⟨g,2,aH⟩=aW a/\W.cell? ⟨h,0,aH⟩=aW (aA rk)
theorem GV.V{b:Value}(s:GV g h yk yn b rk w)(a:Below w.heap.size w W):GV g h yk yn b rk W:=⟨(a.cell (aF w _ s.1)).trans s.1,(a.cell (aF w _ s.2.1)).trans s.2.1,(a.cell (aF w _ s.2.2.1)).trans s.2.2.1,(a.cell (aF w _ s.2.2.2)).trans s.2.2.2⟩
theorem GV.far{b:Value}{row:Option Nat}(s:GV g h yk yn b rk w)(a:w.grownBy W row)(h1:row≠aW g)(c:row≠aW h):GV g h yk yn b rk W:=⟨(a.cell_far ⟨g,0,aH⟩ (aF w _ s.1) (bM h1)).trans s.1,(a.cell_far ⟨g,1,aH⟩ (aF w _ s.2.1) (bM h1)).trans s.2.1,(a.cell_far ⟨g,2,aH⟩ (aF w _ s.2.2.1) (bM h1)).trans s.2.2.1,(a.cell_far ⟨h,0,aH⟩ (aF w _ s.2.2.2) (bM c)).trans s.2.2.2⟩
def Xq(P:List PChange)(w0 w:World)(e:Ending)(w':World):Prop:=∃v' a,e=aR v'/\a.map Bl.I=P/\(∀c∈a,Gw w0 c/\Ah c.ls)/\Az w.heap.size w' (EI v' a)/\a.length<=12/\Below w.heap.size w w'
def Oa(B:Nat)(w0 w2:World)(yk yn:ByteArray)(P Q:List PLine)(a:Nat)(b:List MRow)(d i:Value)(wr:World):Prop:=∃(k:Nat) (cs:List Bl),i=.int .i64 (k:Int)/\k<=a/\cs.map Bl.I=((rulesOf yk).take k).flatMap (fun p=>FO yk yn P Q p.1)/\(∀c∈cs,Gw w0 c/\Ah c.ls)/\cs.length<=k/\Az B wr (EI d cs++b)/\Below B w2 wr
theorem LD{x:BAt}(b7:Below w0.heap.size w0 w)(aa:AH w0 x)(ab:AH w0 y)(b8:Ah x.ls)(b9:Ah y.ls):Calls prog 133 #[aM #[aA x.aa,aA x.name,x.v],aM #[aA y.aa,aA y.name,y.v]] w fun e w'=>Xq (Ph ⟨y.aa,y.name,x.ls.map LAt.I⟩ y.I) w0 w e w':=by
 obtain⟨xk,xn,xv,g⟩:=x;obtain⟨yk,yn,ea,b⟩:=y;unfold AH at aa ab;simp only at *;obtain⟨xa,xc,rfl⟩:=aa.1.ae;obtain⟨d,yc,rfl⟩:=ab.1.ae;have ca:Below w.heap.size w ((w.alloc (aJ #[aA xk,aA xn,aB xa g.length xc] 46)).alloc (aJ #[aA yk,aA yn,aB d b.length yc] 46)):=((aI w.heap.size w).alloc (aG _) _).alloc (by simp) _;have cb:((w.alloc (aJ #[aA xk,aA xn,aB xa g.length xc] 46)).alloc (aJ #[aA yk,aA yn,aB d b.length yc] 46)).heap.size=w.heap.size+2:=by simp
 have dm:=(AA.new w #[aA xk,aA xn,aB xa g.length xc] 46).V ((aI _ _).alloc (aG _) (aJ #[aA yk,aA yn,aB d b.length yc] 46));have a3:=AA.new (w.alloc (aJ #[aA xk,aA xn,aB xa g.length xc] 46)) #[aA yk,aA yn,aB d b.length yc] 46;rw[aN]at a3;have eb:=Aa (show An w0 (aB xa g.length xc) g from aa);have dn:=Aa (show An w0 (aB d b.length yc) b from ab);have cc:=b7.trans (ca.mono b7.size);have dp:=Aa (An.V aa cc);have dq:=Aa (An.V ab cc);have a4:=Aa b8;have a6:=Aa b9;generalize cd:(w.alloc (aJ #[aA xk,aA xn,aB xa g.length xc] 46)).alloc (aJ #[aA yk,aA yn,aB d b.length yc] 46)=w2 at *;have dr:=Aa cd;have ce:=NY (w.heap.size+2) w2;have b0:=Ab a3 0;simp only[aD,aC]at b0;have cf:=fun W=>Cr yk W
 obtain⟨i0,cg,ch,ci,cj⟩:=info_parts Ur;clear aa ab b8 b9 cd;generalize ck:g.length=ec at *;have ed:=Aa ck;clear ck;generalize cl:b.length=l at *;have ee:=Aa cl;clear cl;go_enter func133,ntmps133;go_upto_region 2 with fail
 rw[dr.out];go_wp2_with (go_at_call 29;refine(cf _).mono ?_)
 rintro e an ⟨vr,L,rfl,a7,ao,a8⟩;have ef:=Ds yk a7;have cm:=Aa a7;have ds:=Aa (AX.rin ao).2;obtain⟨cn,co,rfl,_⟩:=Ak (show an.ownsRow _ 54 4 vr L.length (L.flatMap AO.cells) from Az.head ao);obtain⟨B,a9⟩:∃B,(⟨aB cn L.length co,54,4,L.length,L.flatMap AO.cells⟩::L.flatMap AO.ah:List MRow)=B:=⟨_,rfl⟩;have cp:Az (w.heap.size+2) an (EI (aB aH 0 0) []++B):=by
  rw[<-a9];exact(Az.join ce ao a8 (by omega)).perm bT
 have V:Below (w.heap.size+2) w2 an:=a8.mono (by omega);have cq:=Aa (show Oa (w.heap.size+2) w0 w2 yk yn (g.map LAt.I) (b.map LAt.I) L.length B (aB aH 0 0) (.int .i64 0) an from⟨0,[],rfl,by omega,by simp,by simp,by simp,cp,V⟩);have dt:=Aa a9;clear ao a8 a7 cf ce cp V b0 a9;generalize cr:L.length=v at *;have ct:=Aa cr;clear cr;go_wp2;go_loopw [5,14] (fun du i wr=>Oa (w.heap.size+2) w0 w2 yk yn (g.map LAt.I) (b.map LAt.I) v B du i wr) (fun _ i _=>v-(intOf i).toNat)
 case atStart=>exact cq.out
 case round =>
  clear cq;obtain⟨k,cs,rfl,eg,ap,aq,eh,H,ar⟩:=hrel;obtain⟨I,J,rfl,_⟩:=Ak (show wr.ownsRow (w.heap.size+2) 91 1 _ cs.length (cs.map Bl.step) from Az.head H);have dv:=ar.size;rw[cb]at dv;have au:Below w2.heap.size w2 wr:=by rw[cb];exact ar
  by_cases ei:k<v
  ·obtain⟨D,r,T,aw,ba⟩:=AS L k (by have:=ct.out;omega);have A:Ap wr (aB cn v co) v 4 (L.flatMap AO.cells):=by
    have:=Az.right H;rw[<-dt.out]at this;have h:=AG (Az.head this);exact h
   rw[aw]at A;obtain⟨ej,ek,rfl,cu,bb,cw,bc⟩:=A.rule;rw[ba]at cu bb cw bc;obtain⟨⟨av,bd,cv,cx⟩,⟨be,bf,bg,cy⟩⟩:=ds.out r (by rw[aw];simp);rw[cx]at bb;rw[cy]at bc;have el:(0:Int)<=(k:Int):=by omega
   have em:(k:Int)<(v:Int):=by omega
   have bh:=Aa (show ((rulesOf yk).take (k+1)).flatMap (fun p=>FO yk yn (g.map LAt.I) (b.map LAt.I) p.1)=cs.map Bl.I++FO yk yn (g.map LAt.I) (b.map LAt.I) r.key from by
    have e:rulesOf yk=D.map AO.I++r.I::T.map AO.I:=by rw[<-cm.out,aw];simp
    rw[Pt _ e (by rw[aL];exact ba),ap];rfl)
   have ax:=Aa (show ∀q,(bZ I cs.length J).ownBlock=aW q->w.heap.size+2<=q/\q<wr.heap.size from fun q dw=>Az.lt H (List.mem_append_left _ (bA ..)) dw);have cz:=Aa H;have bi:=Aa aq;clear H aq ap A aw ba cx cy;generalize r.key=rk at *;generalize r.many=bj at *;have X:=(aI wr.heap.size wr).alloc (aG _) (aJ #[aA rk,aB av bd cv,.bool bj,aB be bf bg] 54);have bk:=AA.new wr #[aA rk,aB av bd cv,.bool bj,aB be bf bg] 54;have c0:=(dm.V au).V X;have c1:=(a3.V au).V X;have c2:=Aa ((dp.out.V au).V X);have c3:=Aa ((dq.out.V au).V X);have c4:=Aa (cz.out.V X);have V:=ar.trans (X.mono (by omega));go_upto_region 5 with fail
   generalize wr.alloc (aJ #[aA rk,aB av bd cv,.bool bj,aB be bf bg] 54)=en at *;clear cu bb cw bc cz;have a2:=Ab c0 2;have c6:=Ab bk 0;simp only[aD,aC,aE]at a2 c6;have c7:=Ce rk c2.out a4.out.1;go_wp2_with (go_at_call 158;refine c7.mono ?_)
   first | rintro e ay v5 rfl o5 C | rintro e ay ⟨v5,rfl,o5,C⟩
   have c8:=Aa (I9 g rk);have c9:=Aa (show ∀j∈withKey g rk,j∈g from fun j o=>(bO.1 o).1);have dx:(withKey g rk).length<=1048576:=bL (bU _ _) a4.out.1;have az:=Aa (I9 b rk);have bl:=Aa (show ∀j∈withKey b rk,j∈b from fun j o=>(bO.1 o).1);have da:(withKey b rk).length<=1048576:=bL (bU _ _) a6.out.1;have db:=Ce rk (c3.out.V C) a6.out.1;generalize withKey g rk=ac at *;generalize withKey b rk=s at *;obtain⟨a5,c5,rfl,_⟩:=Ak o5;have bm:=c1.V C;have bn:=bk.V C;have dc:=Ab bm 2;have dd:=Ab bn 0;simp only[aD,aC,aE]at dc dd;have dy:=Aa (show An ay (aB a5 ac.length c5) ac from⟨AG o5,fun j o=>(c2.out.2 j (c9.out j o)).V C⟩);have dz:=Aa (show Ah ac from⟨dx,fun j o=>a4.out.2 j (c9.out j o)⟩);clear c7 o5 a2 c6;generalize d0:ac.length=eo at *;clear d0;go_wp2_with (go_at_call 158;refine db.mono ?_)
   first | rintro e de d1 rfl o6 E | rintro e de ⟨d1,rfl,o6,E⟩
   obtain⟨F,G,rfl,_⟩:=Ak o6;have df:=Aa (show Ah s from⟨da,fun j o=>a6.out.2 j (bl.out j o)⟩);have d2:=Aa (show An de (aB F s.length G) s from⟨AG o6,fun j o=>((c3.out.V C).2 j (bl.out j o)).V E⟩);have d3:=Aa o6;have a0:=V6 (dy.out.V E) d2.out dz.out df.out;have bo:=bm.V E;have bp:=bn.V E;have M:=V.trans (C.mono (by have:=V.size;omega));have ad:=Aa (c4.out.V C);generalize dg:decide (ac.map LAt.ws=s.map LAt.ws)=d4 at a0;have dh:=Aa dg;clear db o6 dc dd bm bn c1 bk c0 dg V c4;generalize di:s.length=z at *;have bq:=Aa di;clear di;have ep:z<=1048576:=da;go_wp2_with (go_at_call 177;refine a0.mono ?_)
   rintro e m ⟨rfl,ae⟩;have N:=E.trans (ae.mono E.size);have dj:=M.trans (N.mono (by have:=M.size;omega));cases d4
   ·have dk:=Aa (show ¬Iy (g.map LAt.I) rk=Iy (b.map LAt.I) rk from fun h=>of_decide_eq_false dh.out ((Us c8.out az.out).2 h));have a1:=bo.V ae;have dl:=bp.V ae;clear a0 bo bp;have d5:=Aa (AL d3.out ae);have br:=Ab a1 0;have bs:=Ab a1 1;have bt:=Ab a1 2;have bu:=Ab dl 0;simp only[aD,aC,aE]at br bs bt bu;have Y:=Aa (show GV (w.heap.size+1) wr.heap.size yk yn (aB d l yc) rk m from⟨br,bs,bt,bu⟩);clear br bs bt bu a1 dl;by_cases bv:z=0
    ·have bw:=Aa (show s.map LAt.I=[] from by rw[bS.1 (bq.out.trans bv)];rfl);subst bv;have t0:∀p:{ W:World // GV (w.heap.size+1) wr.heap.size yk yn (aB d l yc) rk W },p.1.cell? ⟨w.heap.size+1,0,aH⟩=aW (aA yk):=fun p=>p.2.1
     have bx:∀p:{ W:World // GV (w.heap.size+1) wr.heap.size yk yn (aB d l yc) rk W },p.1.cell? ⟨w.heap.size+1,1,aH⟩=aW (aA yn):=fun p=>p.2.2.1
     have t2:∀p:{ W:World // GV (w.heap.size+1) wr.heap.size yk yn (aB d l yc) rk W },p.1.cell? ⟨w.heap.size+1,2,aH⟩=aW (aB d l yc):=fun p=>p.2.2.2.1
     have t3:∀p:{ W:World // GV (w.heap.size+1) wr.heap.size yk yn (aB d l yc) rk W },p.1.cell? ⟨wr.heap.size,0,aH⟩=aW (aA rk):=fun p=>p.2.2.2.2
     letI:Inhabited { W:World // GV (w.heap.size+1) wr.heap.size yk yn (aB d l yc) rk W }:=⟨⟨m,Y.out⟩⟩;have af:Below m.heap.size m m.drew:=(aI _ _).drew;have bz:=GU yk yn d l yc m.drew;go_upto_region 9 with fail
     refine AW (S:=(GV (w.heap.size+1) wr.heap.size yk yn (aB d l yc) rk)) 9 10 (by kernel_rfl) rfl ?_;refine AF [true,true,false,true,true,false,false,false,false,false] 6 rfl (by kernel_rfl) (Y.out.V af) ?_;simp only[AU,AV,AR];iterate 4 (refine Av (fun K a=>?_);go_simp;refine a _ ?_;clear a K)
     refine A4 ?_;clear t0 bx t2 t3;refine Ae (f:=5) (rs:=[2]) (by kernel_rfl) (by simp) ?_;refine Af.cons rfl (by decide) (fun K a=>?_) Af.nil;go_simp;go_wp2_with (go_at_call 47;refine bz.mono ?_;rintro e n ⟨rfl,b1⟩)
     have Z:Below m.heap.size m n:=af.trans b1;have O:=Y.out.V Z;refine a.out _ _ O ?_;clear a K;refine AF [false,false,false,false,false,true,true,false,false,false] 3 rfl (by kernel_rfl) O ?_;simp only[AU,AV,AR];iterate 2 (refine Av (fun K a=>?_);go_simp;refine a _ ?_;clear a K)
     refine A4 ?_;refine Ae (f:=2) (rs:=[7]) (by kernel_rfl) (by simp) ?_;refine Af.cons rfl (by decide) (fun K a=>?_) Af.nil;go_simp;have P:=(aI n.heap.size n).alloc (aG _) (aJ #[(.iface 190 (aM #[aA yk,aA yn,aA rk]))] 91);have Q:=N.trans (Z.mono N.size);have ag:(n.alloc (aJ #[(.iface 190 (aM #[aA yk,aA yn,aA rk]))] 91)).ownsRow (w.heap.size+2) 91 1 (aB I cs.length J) cs.length (cs.map Bl.step):=(show n.ownsRow (w.heap.size+2) 91 1 (aB I cs.length J) cs.length (cs.map Bl.step) from Az.head (ad.out.V Q)).alloc _;have A:=Bz n #[(.iface 190 (aM #[aA yk,aA yn,aA rk]))] 91 1 rfl;have ah:∀u∈(#[(.iface 190 (aM #[aA yk,aA yn,aA rk]))]:Array Value).toList,u.oneCell'=true:=by intro u ai;simp at ai;rw[ai];rfl
     have aj:=O.V P;refine a.out _ _ aj ?_;clear a K;refine Ae (f:=1) (rs:=[8]) (by kernel_rfl) (by simp) ?_;refine Af.cons rfl (by decide) (fun K a=>?_) Af.nil;have d6:=M.size;have d7:=Q.size;refine AC rfl _ _ 88 rfl (w.heap.size+2) 91 i0 _ 1 16 underlying88 cg ch ci cj rfl (by decide) _ cs.length _ rfl ag _ 1 _ rfl A ah (by unfold maxLen;omega) (by omega) (by rw[aN];omega) ?_;intro b2 b3 b4 ak R al;have U:=GT (x:=⟨4,yk,yn,rk,aB aH 0 0,[]⟩) ad.out (by omega) (⟨fun _ h=>(by cases h),(by simp)⟩:Az ay.heap.size n []) Q P ak R al;have b5:=M.trans (U.2.mono (by omega));have b6:=aj.far R (fun e=>by have:=(ax.out _ e).1;omega) (fun e=>by have:=(ax.out _ e).2;omega);refine a.out _ _ b6 ?_;clear a K;have am:=Aa (show Oa (w.heap.size+2) w0 w2 yk yn (g.map LAt.I) (b.map LAt.I) v B (aB b2 (cs.length+1) b3) (.int .i64 ((k:Int)+1)) b4 from⟨k+1,cs++[⟨4,yk,yn,rk,aB aH 0 0,[]⟩],by rw[aT];rfl,by omega,by
      rw[bh.out,aQ,aV];unfold FO;rw[if_neg dk.out];show _=_++[(⟨_,yk,yn,rk,Iy (b.map LAt.I) rk⟩:PChange)]
      rw[<-az.out,bw.out,if_pos (by rfl)];rfl,fun c t=>by
      rcases aZ.1 t with t | t
      ·exact bi.out c t
      ·rw[aU.1 t];exact⟨.inr (.inr (.inr ⟨rfl,rfl⟩)),cC _,fun _ h=>by cases h⟩,by simp;omega,U.1,b5⟩)
     clear ag A ah ak R al U P;refine AK (by kernel_rfl) rfl (by kernel_rfl) ?_;intro K a;go_simp;refine a.out _ _ (bH ?_);clear a K;go_wp2;go_roundw;case rel=>exact am.out
     case measure=>simp[intOf];omega
    ·have eq:((z:Int)==0)=false:=by rw[beq_eq_false_iff_ne];omega
     have bw:=Aa (show s.map LAt.I≠[] from fun e=>bv (by rw[<-bq.out];exact bS.2 (List.map_eq_nil_iff.1 e)));have t0:∀p:{ W:World // GV (w.heap.size+1) wr.heap.size yk yn (aB d l yc) rk W },p.1.cell? ⟨w.heap.size+1,0,aH⟩=aW (aA yk):=fun p=>p.2.1
     have bx:∀p:{ W:World // GV (w.heap.size+1) wr.heap.size yk yn (aB d l yc) rk W },p.1.cell? ⟨w.heap.size+1,1,aH⟩=aW (aA yn):=fun p=>p.2.2.1
     have t2:∀p:{ W:World // GV (w.heap.size+1) wr.heap.size yk yn (aB d l yc) rk W },p.1.cell? ⟨w.heap.size+1,2,aH⟩=aW (aB d l yc):=fun p=>p.2.2.2.1
     have t3:∀p:{ W:World // GV (w.heap.size+1) wr.heap.size yk yn (aB d l yc) rk W },p.1.cell? ⟨wr.heap.size,0,aH⟩=aW (aA rk):=fun p=>p.2.2.2.2
     letI:Inhabited { W:World // GV (w.heap.size+1) wr.heap.size yk yn (aB d l yc) rk W }:=⟨⟨m,Y.out⟩⟩;have af:Below m.heap.size m m.drew:=(aI _ _).drew;have bz:=GU yk yn d l yc m.drew;go_upto_region 10 with fail
     refine AW (S:=(GV (w.heap.size+1) wr.heap.size yk yn (aB d l yc) rk)) 10 11 (by kernel_rfl) rfl ?_;refine AF [true,true,false,true,true,true,false,false,false,false,false] 6 rfl (by kernel_rfl) (Y.out.V af) ?_;simp only[AU,AV,AR];iterate 5 (refine Av (fun K a=>?_);go_simp;refine a _ ?_;clear a K)
     refine A4 ?_;clear t0 bx t2 t3;refine Ae (f:=5) (rs:=[2]) (by kernel_rfl) (by simp) ?_;refine Af.cons rfl (by decide) (fun K a=>?_) Af.nil;go_simp;go_wp2_with (go_at_call 47;refine bz.mono ?_;rintro e n ⟨rfl,b1⟩)
     have Z:Below m.heap.size m n:=af.trans b1;have O:=Y.out.V Z;refine a.out _ _ O ?_;clear a K;refine AF [false,false,false,false,false,false,true,true,false,false,false] 3 rfl (by kernel_rfl) O ?_;simp only[AU,AV,AR];iterate 2 (refine Av (fun K a=>?_);go_simp;refine a _ ?_;clear a K)
     refine A4 ?_;refine Ae (f:=2) (rs:=[8]) (by kernel_rfl) (by simp) ?_;refine Af.cons rfl (by decide) (fun K a=>?_) Af.nil;go_simp;have P:=(aI n.heap.size n).alloc (aG _) (aJ #[(.iface 188 (aM #[aA yk,aA yn,aA rk,aB F z G]))] 91);have Q:=N.trans (Z.mono N.size);have ag:(n.alloc (aJ #[(.iface 188 (aM #[aA yk,aA yn,aA rk,aB F z G]))] 91)).ownsRow (w.heap.size+2) 91 1 (aB I cs.length J) cs.length (cs.map Bl.step):=(show n.ownsRow (w.heap.size+2) 91 1 (aB I cs.length J) cs.length (cs.map Bl.step) from Az.head (ad.out.V Q)).alloc _;have A:=Bz n #[(.iface 188 (aM #[aA yk,aA yn,aA rk,aB F z G]))] 91 1 rfl;have ah:∀u∈(#[(.iface 188 (aM #[aA yk,aA yn,aA rk,aB F z G]))]:Array Value).toList,u.oneCell'=true:=by intro u ai;simp at ai;rw[ai];rfl
     have aj:=O.V P;refine a.out _ _ aj ?_;clear a K;refine Ae (f:=1) (rs:=[9]) (by kernel_rfl) (by simp) ?_;refine Af.cons rfl (by decide) (fun K a=>?_) Af.nil;have d6:=M.size;have d7:=Q.size;refine AC rfl _ _ 88 rfl (w.heap.size+2) 91 i0 _ 1 16 underlying88 cg ch ci cj rfl (by decide) _ cs.length _ rfl ag _ 1 _ rfl A ah (by unfold maxLen;omega) (by omega) (by rw[aN];omega) ?_;intro b2 b3 b4 ak R al;have U:=GT (x:=⟨3,yk,yn,rk,aB F z G,s⟩) ad.out (by omega) (Az.own1 (show n.ownsRow ay.heap.size 115 2 (aB F z G) s.length (s.flatMap LAt.cells) from by rw[bq.out];exact AL d5.out Z)) Q P ak R al;have b5:=M.trans (U.2.mono (by omega));have b6:=aj.far R (fun e=>by have:=(ax.out _ e).1;omega) (fun e=>by have:=(ax.out _ e).2;omega);refine a.out _ _ b6 ?_;clear a K;have am:=Aa (show Oa (w.heap.size+2) w0 w2 yk yn (g.map LAt.I) (b.map LAt.I) v B (aB b2 (cs.length+1) b3) (.int .i64 ((k:Int)+1)) b4 from⟨k+1,cs++[⟨3,yk,yn,rk,aB F z G,s⟩],by rw[aT];rfl,by omega,by
      rw[bh.out,aQ,aV];unfold FO;rw[if_neg dk.out];show _=_++[(⟨_,yk,yn,rk,Iy (b.map LAt.I) rk⟩:PChange)]
      rw[<-az.out,if_neg (by rw[List.isEmpty_iff];exact bw.out)];rfl,fun c t=>by
      rcases aZ.1 t with t | t
      ·exact bi.out c t
      ·rw[aU.1 t];exact⟨.inr (.inr (.inl ⟨rfl,fun j o=>dn.out.2 j (bl.out j o)⟩)),df.out⟩,by simp;omega,U.1,b5⟩)
     clear ag A ah ak R al U P;refine AK (by kernel_rfl) rfl (by kernel_rfl) ?_;intro K a;go_simp;refine a.out _ _ (bH ?_);clear a K;go_wp2;go_roundw;case rel=>exact am.out
     case measure=>simp[intOf];omega
   ·have d8:=(Us c8.out az.out).1 (of_decide_eq_true dh.out);have am:=Aa (show Oa (w.heap.size+2) w0 w2 yk yn (g.map LAt.I) (b.map LAt.I) v B (aB I cs.length J) (.int .i64 ((k:Int)+1)) m from⟨k+1,cs,by rw[aT];rfl,by omega,by
     rw[bh.out];unfold FO;rw[if_pos d8,aS],bi.out,by omega,ad.out.V N,dj⟩)
    clear a0 bo bp M E ae N dj;go_wp2;go_roundw;case rel=>exact am.out
    case measure=>simp[intOf];omega
  ·obtain rfl:k=v:=by omega
   have d9:=Aa (show Xq (Ph ⟨yk,yn,g.map LAt.I⟩ ⟨yk,yn,b.map LAt.I⟩) w0 w (aR (aB I cs.length J)) wr from⟨_,cs,rfl,by
    rw[ap,<-ct.out,<-aL (f:=AO.I),cm.out,bF];rfl,aq,Az.mono (Az.left H) (by omega),by omega,ca.trans (ar.mono (by omega))⟩)
   clear H aq ap;generalize cs.length=er at *;go_wp2;go_ret;exact d9.out
variable {kind name:ByteArray}{t i:Nat}
theorem Eu{P:List PBlock}(a:t<P.length):DC P kind name t=blockCmp P[t].aa P[t].name kind name:=by
 unfold DC;rw[bR a]
theorem Ob{b:PBlock}:blockCmp b.aa b.name kind name=0↔AE kind name b=true:=by
 unfold blockCmp orI AE;rw[bN,beq_iff_eq,beq_iff_eq];by_cases h:DV b.aa.toList kind.toList=0
 ·rw[if_pos h,Fc];rw[Fc]at h;exact⟨fun k=>⟨h,k⟩,fun k=>k.2⟩
 ·rw[if_neg h];exact⟨fun k=>absurd k h,fun k=>absurd ((Fc _ _).2 k.1) h⟩
theorem Adu{P:List PBlock}{q:PBlock->Bool}(a:i<P.length)(h:q P[i]=true)(b:∀t (d:t<P.length),t<i->q P[t]=false):P.find? q=aW P[i]:=by
 rw[List.find?_eq_some_iff_getElem];exact⟨h,i,a,rfl,fun j c=>by rw[b j (by omega) c];rfl⟩
theorem Oc{P:List PBlock}(h:JM P kind name i)(a:i<P.length)(b:DC P kind name i=0):P.find? (AE kind name)=aW P[i]:=by
 refine Adu a (Ob.1 (by rw[<-Eu a];exact b)) fun t c d=>?_
 have h1:=h.2.1 t d;rw[Eu c]at h1;cases e:AE kind name P[t]
 ·rfl
 ·rw[Ob.2 e]at h1;exact absurd h1 (by decide)
theorem Ke{P:List PBlock}(m:P.Pairwise (fun a b=>blockLt a b=true))(h:JM P kind name i)(n:¬(i<P.length/\DC P kind name i=0)):P.find? (AE kind name)=aH:=by
 rw[List.find?_eq_none];intro b o c;obtain⟨t,d,rfl⟩:=List.mem_iff_getElem.1 o;have l:=Ob.2 c;have p:¬t<i:=fun f=>by
  have:=h.2.1 t f;rw[Eu d,l]at this;exact absurd this (by decide)
 rcases Nat.lt_or_ge i t with f | q
 ·have g:i<P.length:=by omega
  have h1:=List.pairwise_iff_getElem.1 m i t g d f;have j:=h.2.2 i (aG _) g;rw[Eu g]at j;have k:=(BC P[i] P[t]).2 h1;unfold AE at c;rw[bN,beq_iff_eq,beq_iff_eq]at c;unfold blockCmp at j k;rw[c.1,c.2]at k;exact j k
 ·have e:t=i:=by omega
  subst e;exact n ⟨d,by rw[Eu d];exact l⟩
variable {va vb:Value}{az bs:List BAt}
def FH(g:Nat)(k n:ByteArray)(v:Value)(W:World):Prop:=W.cell? ⟨g,0,aH⟩=aW (aA k)/\W.cell? ⟨g,1,aH⟩=aW (aA n)/\W.cell? ⟨g,2,aH⟩=aW v
theorem FH.V{k n:ByteArray}(s:FH g k n v w)(a:Below w.heap.size w W):FH g k n v W:=⟨(a.cell (aF w _ s.1)).trans s.1,(a.cell (aF w _ s.2.1)).trans s.2.1,(a.cell (aF w _ s.2.2)).trans s.2.2⟩
theorem FH.far{k n:ByteArray}{row:Option Nat}(s:FH g k n v w)(a:w.grownBy W row)(h1:row≠aW g):FH g k n v W:=⟨(a.cell_far ⟨g,0,aH⟩ (aF w _ s.1) (bM h1)).trans s.1,(a.cell_far ⟨g,1,aH⟩ (aF w _ s.2.1) (bM h1)).trans s.2.1,(a.cell_far ⟨g,2,aH⟩ (aF w _ s.2.2) (bM h1)).trans s.2.2⟩
def KN(g o:Nat)(k n:ByteArray)(v:Value)(W:World):Prop:=W.cell? ⟨g,o,aH⟩=aW (aA k)/\W.cell? ⟨g,o+1,aH⟩=aW (aA n)/\W.cell? ⟨g,o+2,aH⟩=aW v
theorem KN.upto{o:Nat}{k n:ByteArray}(s:KN g o k n v w)(a:g<B)(b:Below B w W):KN g o k n v W:=⟨(b.cell (p:=⟨g,o,aH⟩) a).trans s.1,(b.cell (p:=⟨g,o+1,aH⟩) a).trans s.2.1,(b.cell (p:=⟨g,o+2,aH⟩) a).trans s.2.2⟩
def RZ(P:List PChange)(w:World)(e:Ending)(w':World):Prop:=∃v' a,e=aR v'/\a.map Bl.I=P/\(∀c∈a,Gw w c/\Ah c.ls)/\a.length<=14000000/\Az w.heap.size w' (EI v' a)/\Below w.heap.size w w'
def Adv(w:World)(A Q:List PBlock)(a:Nat)(b i:Value)(wr:World):Prop:=∃(k:Nat) (cs:List Bl),i=.int .i64 (k:Int)/\k<=a/\cs.map Bl.I=goneS (A.take k) Q/\(∀c∈cs,Gw w c/\Ah c.ls)/\cs.length<=k/\Az w.heap.size wr (EI b cs)/\Below w.heap.size w wr
def Adw(w:World)(A Q:List PBlock)(a b:Nat)(d i:Value)(wr:World):Prop:=∃(k:Nat) (cs:List Bl),i=.int .i64 (k:Int)/\k<=b/\cs.map Bl.I=goneS A Q++(Q.take k).flatMap (El A)/\(∀c∈cs,Gw w c/\Ah c.ls)/\cs.length<=a+12*k/\Az w.heap.size wr (EI d cs)/\Below w.heap.size w wr
theorem KO(bn:As w va az)(bo:As w vb bs)(sa:Ax az)(b4:Ax bs)(b5:Am (az.map BAt.I))(b6:Am (bs.map BAt.I)):Calls prog 64 #[va,vb] w fun e w'=>RZ (goneS (az.map BAt.I) (bs.map BAt.I)++(bs.map BAt.I).flatMap (El (az.map BAt.I))) w e w':=by
 obtain⟨dt,du,rfl⟩:=bn.1.ae;obtain⟨ba,bc,rfl⟩:=bo.1.ae;have bp:=Aa bn;have cq:=Aa bo;have dv:=Aa sa;have dw:=Aa b4;have dx:az.length<=1048576:=sa.1;have dy:bs.length<=1048576:=b4.1;have cr:=Aa (show ∀kind name W,Below w.heap.size w W->Calls prog 132 #[aB dt az.length du,aM #[aA kind,aA name]] W fun e w'=>F9 (az.map BAt.I) kind name W e w' from fun kind name W b7=>Dd kind name (bn.V b7) dx (fun s t h1 a8 b8=>Es b5.2.2 kind name s t h1 (by rw[aL];exact a8) b8));have ct:=Aa (show ∀kind name W,Below w.heap.size w W->Calls prog 132 #[aB ba bs.length bc,aM #[aA kind,aA name]] W fun e w'=>F9 (bs.map BAt.I) kind name W e w' from fun kind name W b7=>Dd kind name (bo.V b7) dy (fun s t h1 a8 b8=>Es b6.2.2 kind name s t h1 (by rw[aL];exact a8) b8));have cu:=Aa b5.2.2;have cv:=Aa b6.2.2;have cw:=NY w.heap.size w;obtain⟨i0,b9,ca,cb,cc⟩:=info_parts Ur;clear bn bo sa b4 b5 b6;obtain⟨l,bq⟩:∃l,az.map BAt.I=l:=⟨_,rfl⟩;obtain⟨m,br⟩:∃m,bs.map BAt.I=m:=⟨_,rfl⟩;rw[bq,br];rw[bq]at cr cu;rw[br]at ct cv;have bt:=Aa bq;have cx:=Aa br;clear bq br;generalize cy:az.length=ag at *;have cd:=Aa cy;clear cy;generalize cz:bs.length=ah at *;have c1:=Aa cz;clear cz;have c5:=Aa (show Adv w l m ag (aB aH 0 0) (.int .i64 0) w from⟨0,[],rfl,by omega,by simp[goneS],by simp,by simp,cw,aI _ _⟩);clear cw;go_enter func64,ntmps64;go_wp2;go_loopw [5,16] (fun ce i wr=>Adv w l m ag ce i wr) (fun _ i _=>ag-(intOf i).toNat)
 case atStart=>exact c5.out
 case round =>
  clear c5;obtain⟨k,cs,rfl,eg,N,Y,c6,G,A⟩:=hrel;obtain⟨R,U,rfl,_⟩:=Ak (show wr.ownsRow w.heap.size 91 1 _ cs.length (cs.map Bl.step) from Az.head G);have bu:=A.size;by_cases dz:k<ag
  ·obtain⟨D,x,T,Z,ao⟩:=AS az k (by have:=cd.out;omega);have r:=bp.out.1;rw[Z]at r;obtain⟨g,off,rfl,aa,ap,ai⟩:=r.block;rw[ao]at aa ap ai;have a1:x∈az:=by rw[Z];simp
   obtain⟨xa,xc,c7⟩:=(bp.out.2 x a1).1.ae;rw[c7]at ai;have a2:=Aa (show goneS (l.take (k+1)) m=cs.map Bl.I++(if (m.find? (AE x.aa x.name)).isNone=true then [Gd x.I] else []) from by
    have e:l=D.map BAt.I++x.I::T.map BAt.I:=by rw[<-bt.out,Z];simp
    have:=Vy (B:=m) e;rw[aL,ao]at this;rw[this,N];rfl)
   have d0:=Aa (show Gd x.I=Bl.I ⟨1,x.aa,x.name,⟨#[]⟩,aB aH 0 0,[]⟩ from rfl);have aq:=aF w _ aa;have c0:=(A.cell (p:=⟨g,off+k*3,aH⟩) aq).trans aa;have bv:=(A.cell (p:=⟨g,off+k*3+1,aH⟩) aq).trans ap;have c2:=(A.cell (p:=⟨g,off+k*3+2,aH⟩) aq).trans ai;have d1:(0:Int)<=(k:Int):=by omega
   have d2:(k:Int)<(ag:Int):=by omega
   have a9:=Aa G;have bb:=Aa Y;clear G Y N r Z ao aa ap ai c7 a1;generalize x.I=eh at *;generalize x.aa=xk at *;generalize x.name=xn at *;generalize x.ls.length=v at *;have ar:=(aI wr.heap.size wr).alloc (aG _) (aJ #[aA xk,aA xn,aB xa v xc] 46);have O:=AA.new wr #[aA xk,aA xn,aB xa v xc] 46;have bd:=Aa (a9.out.V ar);have au:=A.trans (ar.mono bu);go_upto_region 5 with fail
   generalize wr.alloc (aJ #[aA xk,aA xn,aB xa v xc] 46)=d3 at *;clear c0 bv c2 a9 ar;have H:=Ab O 0;have I:=Ab O 1;have J:=Ab O 2;simp only[aD,aC,aE]at H I J;have av:=fun W=>GU xk xn xa v xc W
   go_wp2_with (go_at_call 47;refine(av _).mono ?_)
   first | rintro e be rfl ab | rintro e be ⟨rfl,ab⟩
   have ac:=au.trans (ab.mono au.size);have bf:=O.V ab;have bg:=Aa (bd.out.V ab);clear H I J O bd au;have bh:=ct.out xk xn be ac;go_wp2_with (go_at_call 132;refine bh.mono ?_)
   first | rintro e n i f rfl P Q ad | rintro e n ⟨i,f,rfl,P,Q,ad⟩
   have L:=ac.trans (ad.mono ac.size);have V:=bf.V ad;have aj:=Aa (bg.out.V ad);clear bf bg bh ac;cases f
   ·have cf:=Aa (Ke cv.out P (fun h=>by have:=Q.2 h;cases this));have H:=Ab V 0;have I:=Ab V 1;have J:=Ab V 2;simp only[aD,aC,aE]at H I J;clear P Q;go_wp2_with (go_at_call 47;refine(av _).mono ?_)
    first | rintro e M rfl a3 | rintro e M ⟨rfl,a3⟩
    have cg:=L.trans (a3.mono L.size);have a4:=(aI M.heap.size M).alloc (aG _) (aJ #[.iface 182 (aM #[aA xk,aA xn])] 91);have ak:(M.alloc (aJ #[.iface 182 (aM #[aA xk,aA xn])] 91)).ownsRow w.heap.size 91 1 (aB R cs.length U) cs.length (cs.map Bl.step):=(show M.ownsRow w.heap.size 91 1 (aB R cs.length U) cs.length (cs.map Bl.step) from Az.head (aj.out.V a3)).alloc _;have r:=Bz M #[.iface 182 (aM #[aA xk,aA xn])] 91 1 rfl;have al:∀u∈(#[.iface 182 (aM #[aA xk,aA xn])]:Array Value).toList,u.oneCell'=true:=by intro u aw;simp at aw;rw[aw];rfl
    have ax:=L.size;have d4:=cg.size;clear H I J V av;go_wp2_with (at_builtin;refine A8 (by rfl) _ _ 88 (by rfl) w.heap.size 91 i0 _ 1 16 underlying88 b9 ca cb cc rfl (by decide) _ cs.length _ (by rfl) ak _ 1 _ (by rfl) r al ?c3 ?c4 (by rw[aN];omega) ?_)
    case c3=>unfold maxLen;omega
    case c4=>omega
    intro bi bj bk am X an;have C:=GT (x:=⟨1,xk,xn,⟨#[]⟩,aB aH 0 0,[]⟩) (rest:=[]) (by rw[aS];exact aj.out) ax (⟨fun _ h=>(by cases h),(by simp)⟩:Az n.heap.size M []) a3 a4 am X (by rw[aN];exact an);rw[aS]at C;have ay:=Aa (show Adv w l m ag (aB bi (cs.length+1) bj) (.int .i64 ((k:Int)+1)) bk from⟨k+1,cs++[⟨1,xk,xn,⟨#[]⟩,aB aH 0 0,[]⟩],by rw[aT];rfl,by omega,by
     rw[a2.out,cf.out,aQ,aV,if_pos (by rfl),d0.out],fun c o=>by
     rcases aZ.1 o with o | o
     ·exact bb.out c o
     ·rw[aU.1 o];exact⟨.inl ⟨rfl,rfl,rfl⟩,cC _,fun _ h=>by cases h⟩,by simp;omega,C.1,L.trans (C.2.mono (aG _))⟩)
    clear ak r al am X an C a4;go_wp2;go_roundw;case rel=>exact ay.out
    case measure=>simp[intOf];omega
   ·obtain⟨ae,bl⟩:=Q.1 rfl;have c8:=Aa (Oc P ae bl);have ay:=Aa (show Adv w l m ag (aB R cs.length U) (.int .i64 ((k:Int)+1)) n from⟨k+1,cs,by rw[aT];rfl,by omega,by
     rw[a2.out,c8.out,if_neg (by simp),aS],bb.out,by omega,aj.out,L⟩)
    clear c8 P Q V av ae bl;go_wp2;go_roundw;case rel=>exact ay.out
    case measure=>simp[intOf];omega
  ·obtain rfl:k=ag:=by omega
   have c9:l.take k=l:=by rw[<-bt.out,<-cd.out,<-aL (f:=BAt.I),bF]
   rw[c9]at N;have da:=Aa (show Adw w l m k ah (aB R cs.length U) (.int .i64 0) wr from⟨0,cs,rfl,by omega,by simp[N],Y,by omega,G,A⟩);clear G Y N A bu c9;generalize cs.length=ei at *;clear c6 cs;go_wp2;go_loopw [5,39] (fun ce i wr=>Adw w l m k ah ce i wr) (fun _ i _=>ah-(intOf i).toNat)
   case atStart=>exact da.out
   case round =>
    clear da;obtain⟨j,cs,rfl,ej,N,Y,c6,G,A⟩:=hrel;obtain⟨R,U,rfl,_⟩:=Ak (show wr.ownsRow w.heap.size 91 1 _ cs.length (cs.map Bl.step) from Az.head G);have bu:=A.size;by_cases dz:j<ah
    ·obtain⟨D,y,T,Z,ao⟩:=AS bs j (by have:=c1.out;omega);have r:=cq.out.1;rw[Z]at r;obtain⟨g,off,rfl,aa,ap,ai⟩:=r.block;rw[ao]at aa ap ai;have ch:y∈bs:=by rw[Z];simp
     have db:=cq.out.2 y ch;have dc:=(dw.out.2 y ch).2;have a2:=Aa (show goneS l m++(m.take (j+1)).flatMap (El l)=cs.map Bl.I++El l y.I from by
      have e:m=D.map BAt.I++y.I::T.map BAt.I:=by rw[<-cx.out,Z];simp
      rw[Pt _ e (by rw[aL];exact ao),N,bY])
     have dd:=Aa (show ∀q,(bZ R cs.length U).ownBlock=aW q->q<wr.heap.size from fun q d5=>(Az.lt G (bA ..) d5).2);obtain⟨yk,yn,d6,z⟩:=y;have ci:An w d6 z:=db;obtain⟨a,yc,rfl⟩:=ci.1.ae;have de:=Aa ci;have df:=Aa (show Ah z from dc);have dg:=Aa (show BAt.I ⟨yk,yn,aB a z.length yc,z⟩=⟨yk,yn,z.map LAt.I⟩ from rfl);have aq:=aF w _ aa;have c0:=(A.cell (p:=⟨g,off+j*3,aH⟩) aq).trans aa;have bv:=(A.cell (p:=⟨g,off+j*3+1,aH⟩) aq).trans ap;have c2:=(A.cell (p:=⟨g,off+j*3+2,aH⟩) aq).trans ai;have d1:(0:Int)<=(j:Int):=by omega
     have d2:(j:Int)<(ah:Int):=by omega
     have a9:=Aa G;have bb:=Aa Y;simp only at c0 bv c2;rw[dg.out]at a2;clear G Y N r Z ao aa ap ai ch db ci dc dg;generalize dh:z.length=b at *;have ek:=Aa dh;clear dh;have ar:=(aI wr.heap.size wr).alloc (aG _) (aJ #[aA yk,aA yn,aB a b yc] 46);have O:=AA.new wr #[aA yk,aA yn,aB a b yc] 46;have bd:=Aa (a9.out.V ar);have au:=A.trans (ar.mono bu);go_upto_region 12 with fail
     generalize wr.alloc (aJ #[aA yk,aA yn,aB a b yc] 46)=d3 at *;clear c0 bv c2 a9 ar;have H:=Ab O 0;have I:=Ab O 1;have J:=Ab O 2;simp only[aD,aC,aE]at H I J;have av:=fun W=>GU yk yn a b yc W
     go_wp2_with (go_at_call 47;refine(av _).mono ?_)
     first | rintro e be rfl ab | rintro e be ⟨rfl,ab⟩
     have ac:=au.trans (ab.mono au.size);have bf:=O.V ab;have bg:=Aa (bd.out.V ab);clear H I J O bd au;have bh:=cr.out yk yn be ac;go_wp2_with (go_at_call 132;refine bh.mono ?_)
     first | rintro e n i f rfl P Q ad | rintro e n ⟨i,f,rfl,P,Q,ad⟩
     have L:=ac.trans (ad.mono ac.size);have V:=bf.V ad;have aj:=Aa (bg.out.V ad);have ax:=L.size;have H:=Ab V 0;have I:=Ab V 1;have J:=Ab V 2;simp only[aD,aC,aE]at H I J;have a5:=Aa (show FH wr.heap.size yk yn (aB a b yc) n from⟨H,I,J⟩);clear bf bg bh ac V H I J;have a6:Below n.heap.size n n.drew:=(aI _ _).drew;cases f
     ·have cf:=Aa (show l.find? (AE (⟨yk,yn,z.map LAt.I⟩:PBlock).aa (⟨yk,yn,z.map LAt.I⟩:PBlock).name)=aH from Ke cu.out P (fun h=>by have:=Q.2 h;cases this));clear P Q;have t0:∀p:{ W:World // FH wr.heap.size yk yn (aB a b yc) W },p.1.cell? ⟨wr.heap.size,0,aH⟩=aW (aA yk):=fun p=>p.2.1
      have cj:∀p:{ W:World // FH wr.heap.size yk yn (aB a b yc) W },p.1.cell? ⟨wr.heap.size,1,aH⟩=aW (aA yn):=fun p=>p.2.2.1
      have t2:∀p:{ W:World // FH wr.heap.size yk yn (aB a b yc) W },p.1.cell? ⟨wr.heap.size,2,aH⟩=aW (aB a b yc):=fun p=>p.2.2.2
      letI:Inhabited { W:World // FH wr.heap.size yk yn (aB a b yc) W }:=⟨⟨n,a5.out⟩⟩;have d7:=av n.drew;go_upto_region 15 with fail
      refine AW (S:=(FH wr.heap.size yk yn (aB a b yc))) 9 10 (by kernel_rfl) rfl ?_;refine AF [true,true,false,true,true,false,false,false,false,false] 6 rfl (by kernel_rfl) (a5.out.V a6) ?_;simp only[AU,AV,AR];iterate 4 (refine Av (fun K d=>?_);go_simp;refine d _ ?_;clear d K)
      refine A4 ?_;clear t0 cj t2;refine Ae (f:=5) (rs:=[2]) (by kernel_rfl) (by simp) ?_;refine Af.cons rfl (by decide) (fun K d=>?_) Af.nil;go_simp;go_wp2_with (go_at_call 47;refine d7.mono ?_;rintro e a0 ⟨rfl,d8⟩)
      have bw:Below n.heap.size n a0:=a6.trans d8;have ck:=a5.out.V bw;refine d.out _ _ ck ?_;clear d K;refine AF [false,false,false,false,false,true,true,false,false,false] 3 rfl (by kernel_rfl) ck ?_;simp only[AU,AV,AR];iterate 2 (refine Av (fun K d=>?_);go_simp;refine d _ ?_;clear d K)
      refine A4 ?_;refine Ae (f:=2) (rs:=[7]) (by kernel_rfl) (by simp) ?_;refine Af.cons rfl (by decide) (fun K d=>?_) Af.nil;go_simp;have a4:=(aI a0.heap.size a0).alloc (aG _) (aJ #[(.iface 185 (aM #[aA yk,aA yn,aB a b yc]))] 91);have ak:(a0.alloc (aJ #[(.iface 185 (aM #[aA yk,aA yn,aB a b yc]))] 91)).ownsRow w.heap.size 91 1 (aB R cs.length U) cs.length (cs.map Bl.step):=(show a0.ownsRow w.heap.size 91 1 (aB R cs.length U) cs.length (cs.map Bl.step) from Az.head (aj.out.V bw)).alloc _;have r:=Bz a0 #[(.iface 185 (aM #[aA yk,aA yn,aB a b yc]))] 91 1 rfl;have al:∀u∈(#[(.iface 185 (aM #[aA yk,aA yn,aB a b yc]))]:Array Value).toList,u.oneCell'=true:=by intro u aw;simp at aw;rw[aw];rfl
      have di:=ck.V a4;refine d.out _ _ di ?_;clear d K;refine Ae (f:=1) (rs:=[8]) (by kernel_rfl) (by simp) ?_;refine Af.cons rfl (by decide) (fun K d=>?_) Af.nil;have el:=bw.size;refine AC rfl _ _ 88 rfl w.heap.size 91 i0 _ 1 16 underlying88 b9 ca cb cc rfl (by decide) _ cs.length _ rfl ak _ 1 _ rfl r al (by unfold maxLen;omega) (by omega) (by rw[aN];omega) ?_;intro bi bj bk am X an;have C:=GT (x:=⟨2,yk,yn,⟨#[]⟩,aB a b yc,z⟩) (rest:=[]) (by rw[aS];exact aj.out) ax (⟨fun _ h=>(by cases h),(by simp)⟩:Az n.heap.size a0 []) bw a4 am X an;rw[aS]at C;have bx:=L.trans (C.2.mono (aG _));have cl:=di.far X (fun e=>by have:=dd.out _ e;omega);refine d.out _ _ cl ?_;clear d K;have ay:=Aa (show Adw w l m k ah (aB bi (cs.length+1) bj) (.int .i64 ((j:Int)+1)) bk from⟨j+1,cs++[⟨2,yk,yn,⟨#[]⟩,aB a b yc,z⟩],by rw[aT];rfl,by omega,by
       rw[a2.out,aQ,aV];unfold El;rw[cf.out];rfl,fun c o=>by
       rcases aZ.1 o with o | o
       ·exact bb.out c o
       ·rw[aU.1 o];exact⟨.inr (.inl ⟨rfl,rfl,de.out⟩),df.out⟩,by simp;omega,C.1,bx⟩)
      clear ak r al am X an C a4;refine AK (by kernel_rfl) rfl (by kernel_rfl) ?_;intro K d;go_simp;refine d.out _ _ (bH ?_);clear d K;go_wp2;go_roundw;case rel=>exact ay.out
      case measure=>simp[intOf];omega
     ·obtain⟨ae,bl⟩:=Q.1 rfl;have bz:=Oc P ae bl;have dj:i<az.length:=by rw[<-bt.out,aL]at ae;exact ae
      obtain⟨em,x,en,b0,dk⟩:=AS az i dj;have dl:l[i]'ae=x.I:=by
       have h1:l[i]?=aW x.I:=by rw[<-bt.out,b0,List.getElem?_map,bP (by omega),dk,cB];rfl
       rw[bR ae]at h1;exact Option.some.inj h1
      rw[dl]at bz;have cm:=bp.out.1;rw[b0]at cm;obtain⟨E,F,rfl,bm,b1,b2⟩:=cm.block;rw[dk]at bm b1 b2;have a1:x∈az:=by rw[b0];simp
      have dm:=(dv.out.2 x a1).2;have cn:=bp.out.2 x a1;have dn:=LD (x:=x) (y:=⟨yk,yn,aB a b yc,z⟩) (w0:=w) (w:=n.drew) (L.trans (a6.mono ax)) cn de.out dm df.out;have dp:=Aa (show El l ⟨yk,yn,z.map LAt.I⟩=Ph ⟨yk,yn,x.ls.map LAt.I⟩ ⟨yk,yn,z.map LAt.I⟩ from by
       unfold El;rw[show l.find? (AE (⟨yk,yn,z.map LAt.I⟩:PBlock).aa (⟨yk,yn,z.map LAt.I⟩:PBlock).name)=aW x.I from bz];have b3:=List.find?_some bz;unfold AE at b3;rw[bN,beq_iff_eq,beq_iff_eq]at b3;have d9:x.I=⟨yk,yn,x.ls.map LAt.I⟩:=by
        rw[<-toList_inj b3.1,<-toList_inj b3.2];rfl
       rw[d9])
      obtain⟨xk,xn,xv,co⟩:=x;have dq:An w xv co:=cn;obtain⟨xa,xc,rfl⟩:=dq.1.ae;simp only at dn bm b1 b2 dp;have ea:=aF w _ bm;have eb:=Aa (show KN E (F+i*3) xk xn (aB xa co.length xc) w from⟨bm,b1,b2⟩);have eo:(0:Int)<=(i:Int):=by omega
      have i2:(i:Int)<(k:Int):=by have:=cd.out;omega
      clear cn dq dm a1 cm b0 dl bm b1 b2 bz P Q ae bl dj;generalize ec:co.length=v at *;clear ec;have cp:=Aa (show ∀W,Below w.heap.size w W->FH wr.heap.size yk yn (aB a b yc) W->KN E (F+i*3) xk xn (aB xa v xc) W/\FH wr.heap.size yk yn (aB a b yc) W from fun W h1 a8=>⟨eb.out.upto ea h1,a8⟩);have t0:∀p:{ W:World // KN E (F+i*3) xk xn (aB xa v xc) W/\FH wr.heap.size yk yn (aB a b yc) W },p.1.cell? ⟨wr.heap.size,0,aH⟩=aW (aA yk):=fun p=>p.2.2.1
      have cj:∀p:{ W:World // KN E (F+i*3) xk xn (aB xa v xc) W/\FH wr.heap.size yk yn (aB a b yc) W },p.1.cell? ⟨wr.heap.size,1,aH⟩=aW (aA yn):=fun p=>p.2.2.2.1
      have t2:∀p:{ W:World // KN E (F+i*3) xk xn (aB xa v xc) W/\FH wr.heap.size yk yn (aB a b yc) W },p.1.cell? ⟨wr.heap.size,2,aH⟩=aW (aB a b yc):=fun p=>p.2.2.2.2
      have t3:∀p:{ W:World // KN E (F+i*3) xk xn (aB xa v xc) W/\FH wr.heap.size yk yn (aB a b yc) W },p.1.cell? ⟨E,F+i*3,aH⟩=aW (aA xk):=fun p=>p.2.1.1
      have t4:∀p:{ W:World // KN E (F+i*3) xk xn (aB xa v xc) W/\FH wr.heap.size yk yn (aB a b yc) W },p.1.cell? ⟨E,F+i*3+1,aH⟩=aW (aA xn):=fun p=>p.2.1.2.1
      have t5:∀p:{ W:World // KN E (F+i*3) xk xn (aB xa v xc) W/\FH wr.heap.size yk yn (aB a b yc) W },p.1.cell? ⟨E,F+i*3+2,aH⟩=aW (aB xa v xc):=fun p=>p.2.1.2.2
      have dr:=cp.out _ (L.trans (a6.mono ax)) (a5.out.V a6);letI:Inhabited { W:World // KN E (F+i*3) xk xn (aB xa v xc) W/\FH wr.heap.size yk yn (aB a b yc) W }:=⟨⟨n.drew,dr⟩⟩;go_upto_region 14 with fail
      refine AW (S:=fun W=>KN E (F+i*3) xk xn (aB xa v xc) W/\FH wr.heap.size yk yn (aB a b yc) W) 8 9 (by kernel_rfl) rfl ?_;refine AF [true,true,true,true,true,true,false,false,false] 3 rfl (by kernel_rfl) dr ?_;simp only[AU,AV,AR];iterate 6 (refine Av (fun K d=>?_);go_simp;refine d _ ?_;clear d K)
      refine A4 ?_;clear t0 cj t2 t3 t4 t5;refine Ae (f:=2) (rs:=[6]) (by kernel_rfl) (by simp) ?_;refine Af.cons rfl (by decide) (fun K d=>?_) Af.nil;go_simp;go_wp2_with (go_at_call 133;refine dn.mono ?_;rintro e M ⟨ep,af,rfl,ds,ed,o7,eq,a3⟩;obtain⟨er,es,rfl,_⟩:=Ak (show M.ownsRow _ 91 1 _ af.length (af.map Bl.step) from Az.head o7))
      have a7:Below n.heap.size n M:=a6.trans a3;have d4:=a7.size;have cg:=L.trans (a7.mono ax);refine d.out _ _ (cp.out _ cg (a5.out.V a7)) ?_;clear d K;refine Ae (f:=1) (rs:=[7]) (by kernel_rfl) (by simp) ?_;refine Af.cons rfl (by decide) (fun K d=>?_) Af.nil;have ak:M.ownsRow w.heap.size 91 1 (aB R cs.length U) cs.length (cs.map Bl.step):=Az.head (aj.out.V a7);have r:=AG (show M.ownsRow _ 91 1 _ af.length (af.map Bl.step) from Az.head o7);have al:∀u∈af.map Bl.step,u.oneCell'=true:=by intro u aw;obtain⟨c,_,rfl⟩:=List.mem_map.1 aw;exact c.step_one
      refine AC rfl _ _ 88 rfl w.heap.size 91 i0 _ 1 16 underlying88 b9 ca cb cc rfl (by decide) _ cs.length _ rfl ak _ af.length _ rfl r al (by unfold maxLen;omega) (by omega) (by omega) ?_;intro bi bj bk am X an;have C:=Wm aj.out ax o7 a7 (aI _ _) am X an;have bx:=L.trans (C.2.mono (aG _));have cl:=(a5.out.V a7).far X (fun e=>by have:=dd.out _ e;omega);refine d.out _ _ (cp.out _ bx cl) ?_;clear d K;have ay:=Aa (show Adw w l m k ah (aB bi (cs.length+af.length) bj) (.int .i64 ((j:Int)+1)) bk from⟨j+1,cs++af,by rw[aT];rfl,by omega,by
       rw[a2.out,aQ,dp.out,ds];rfl,fun c o=>by
       rcases aZ.1 o with o | o
       ·exact bb.out c o
       ·exact ed c o,by rw[bE];omega,C.1,bx⟩)
      clear ak r al am X an C o7 ds;generalize af.length=et at *;refine AK (by kernel_rfl) rfl (by kernel_rfl) ?_;intro K d;go_simp;refine d.out _ _ (bH ?_);clear d K;go_wp2;go_roundw;case rel=>exact ay.out
      case measure=>simp[intOf];omega
    ·obtain rfl:j=ah:=by omega
     have ee:m.take j=m:=by rw[<-cx.out,<-c1.out,<-aL (f:=BAt.I),bF]
     rw[ee]at N;have ef:=Aa (show RZ (goneS l m++m.flatMap (El l)) w (aR (aB R cs.length U)) wr from⟨_,cs,rfl,N,Y,by omega,G,A⟩);clear G Y N;generalize cs.length=eu at *;go_wp2;go_ret;exact ef.out
def Sa(B:Nat)(w2:World)(P:List PChange)(n:Nat)(rest:List MRow)(a i:Value)(wr:World):Prop:=∃(k:Nat) (ds:List Bl),i=.int .i64 (k:Int)/\k<=n/\ds.map Bl.I=P.take k/\(∀c∈ds,Ah c.ls)/\ds.length<=k/\Az B wr (Pq a ds++rest)/\Below B w2 wr
theorem Sb(Z:As w va az)(aa:As w vb bs)(sa:Ax az)(av:Ax bs)(aw:BJ w):Calls prog 18 #[aM #[va],aM #[vb]] w fun e w'=>Hv (diffS (az.map BAt.I) (bs.map BAt.I)) w e w':=by
 obtain⟨z,A,rfl⟩:=Z.1.ae;obtain⟨ba,bc,rfl⟩:=aa.1.ae;have b:Below w.heap.size w ((w.alloc (aJ #[aB z az.length A] 25)).alloc (aJ #[aB ba bs.length bc] 25)):=((aI w.heap.size w).alloc (aG _) _).alloc (by simp) _;have bw:((w.alloc (aJ #[aB z az.length A] 25)).alloc (aJ #[aB ba bs.length bc] 25)).heap.size=w.heap.size+2:=by simp
 have kk:=BO (w:=w) (cs:=#[aB z az.length A]) (ds:=#[aB ba bs.length bc]) (T:=25) (U:=25);have ab:=kk.1 0;have B:=kk.2 0;simp only[aD,aC]at ab B;clear kk;have ax:=Aa (Z.V b);have ay:=Aa (aa.V b);have ST:=Aa (aw.V b);have a0:=Aa sa;have a1:=Aa av;generalize a2:(w.alloc (aJ #[aB z az.length A] 25)).alloc (aJ #[aB ba bs.length bc] 25)=w2 at *;have bx:=Aa a2;have J:=Cs ax.out a0.out ST.out;have K:=Aa (show ∀W,Below w2.heap.size w2 W->Calls prog 19 #[aM #[aB ba bs.length bc]] W fun e w'=>e=aR (.bool (AJ (bs.map BAt.I)))/\Below W.heap.size W w' from fun W h=>Cs (ay.out.V h) a1.out (ST.out.V h));have L:=Aa (show AJ (az.map BAt.I)=true->AJ (bs.map BAt.I)=true->∀W,Below w2.heap.size w2 W->Calls prog 64 #[aB z az.length A,aB ba bs.length bc] W fun e w'=>RZ (goneS (az.map BAt.I) (bs.map BAt.I)++(bs.map BAt.I).flatMap (El (az.map BAt.I))) W e w' from fun h1 ac W h=>KO (ax.out.V h) (ay.out.V h) a0.out a1.out (A0.1 h1) (A0.1 ac));obtain⟨i0,bz,b0,b1,b2⟩:=info_parts Vd;clear Z aa sa av aw a2;obtain⟨d,ad⟩:∃d,az.map BAt.I=d:=⟨_,rfl⟩;obtain⟨j,ae⟩:∃j,bs.map BAt.I=j:=⟨_,rfl⟩;rw[ad]at J L;rw[ae]at K L;rw[ad,ae];have a3:=Aa (show ∀af ag,AJ d=af->AJ j=ag->diffS d j=if af=true/\ag=true then goneS d j++j.flatMap (El d) else [] from fun af ag h1 ac=>by rw[<-h1,<-ac];rfl);generalize ah:AJ d=a4 at J;generalize ai:AJ j=a5 at K;have M:=Aa (a3.out a4 a5 ah ai);have a6:=Aa ah;have a7:=Aa ai;generalize goneS d j++j.flatMap (El d)=o at *;generalize diffS d j=N at *;clear ad ae a3 ah ai;generalize az.length=cr at *;generalize bs.length=ct at *;go_enter func18,ntmps18;go_upto_region 1 with fail
 rw[bx.out];go_wp2_with (go_at_call 19;refine J.mono ?_)
 first | rintro e aj rfl p | rintro e aj ⟨rfl,p⟩
 have b3:=(p.cell (aF _ _ B)).trans B;clear J;cases a4
 ·have C:=Aa (show Hv N w (aR (aB aH 0 0)) aj from⟨_,[],rfl,by rw[M.out];simp,by simp,by simp,GJ _ _,b.trans (p.mono b.size)⟩);go_wp2;go_ret;exact C.out
 ·have a8:=K.out aj p;go_wp2_with (go_at_call 19;refine a8.mono ?_)
  first | rintro e a rfl ak | rintro e a ⟨rfl,ak⟩
  have q:=p.trans (ak.mono p.size);clear a8;cases a5
  ·have C:=Aa (show Hv N w (aR (aB aH 0 0)) a from⟨_,[],rfl,by rw[M.out];simp,by simp,by simp,GJ _ _,b.trans (q.mono b.size)⟩);go_wp2;go_ret;exact C.out
  ·have b4:=Aa (show N=o from by rw[M.out];simp);have a9:=L.out a6.out a7.out a q;have b5:=(q.cell (aF _ _ ab)).trans ab;have b6:=(q.cell (aF _ _ B)).trans B;clear M a6 a7 L K b3;go_wp2_with (go_at_call 64;refine a9.mono ?_)
   first | rintro e O bb cs rfl al am b7 P E | rintro e O ⟨bb,cs,rfl,al,am,b7,P,E⟩
   obtain⟨sa,sc,rfl,_⟩:=Ak (show O.ownsRow _ 91 1 bb cs.length (cs.map Bl.step) from Az.head P);have b8:=q.size;have cu:=E.size;rw[bw]at b8;obtain⟨rest,an⟩:∃rest,EI (aB sa cs.length sc) cs=rest:=⟨_,rfl⟩;have bd:Az a.heap.size O (Pq (aB aH 0 0) []++rest):=by
    have b9:Az a.heap.size a (Pq (aB aH 0 0) []):=GJ _ _;rw[<-an];exact(Az.join b9 P E (aG _)).perm bT
   have be:=Aa (show Sa a.heap.size a o cs.length rest (aB aH 0 0) (.int .i64 0) O from⟨0,[],rfl,by omega,by simp,by simp,by simp,bd,E⟩);have bf:=Aa al;have bg:=Aa am;have ca:=Aa an;have cb:=Aa (b.trans (q.mono b.size));have bh:w.heap.size<=a.heap.size:=by omega
   clear bd P E al am an b5 b6 a9 p ak q b;generalize bi:cs.length=n at *;have ao:=Aa bi;clear bi;go_wp2;go_loopw [5,22] (fun cc i wr=>Sa a.heap.size a o n rest cc i wr) (fun _ i _=>n-(intOf i).toNat)
   case atStart=>exact be.out
   case round =>
    clear be;obtain⟨k,ds,rfl,cw,F,Q,cx,s,R⟩:=hrel;obtain⟨ap,aq,rfl,_⟩:=Ak (show wr.ownsRow a.heap.size 93 5 _ ds.length (ds.flatMap Bl.cells) from Az.head s);have cd:=R.size;by_cases cy:k<n
    ·obtain⟨D,x,T,S,ar⟩:=AS cs k (by have:=ao.out;omega);have V:x∈cs:=by rw[S];simp
     have X:=Az.right s;rw[<-ca.out]at X;have G:=AG (show wr.ownsRow _ 91 1 (aB sa n sc) cs.length (cs.map Bl.step) from Az.head X);obtain⟨g,off,rfl,m⟩:=G.at (by have:=ao.out;omega);have c0:=m k x.step (by rw[S,aQ,bQ,bP (by rw[aL];omega),aL,ar,cB];rfl);have bj:=RY (Adt X R V (bg.out x V).1) (bg.out x V).2;have ce:=Aa (show o.take (k+1)=ds.map Bl.I++[x.I] from by
      rw[F,<-bf.out,S];have e:(D++x::T).map Bl.I=D.map Bl.I++x.I::T.map Bl.I:=by simp
      have cf:(D.map Bl.I).length=k:=by rw[aL];exact ar
      rw[e,<-cf,BG,Bk])
     have cz:(0:Int)<=(k:Int):=by omega
     have c1:(k:Int)<(n:Int):=by omega
     have bk:=Aa s;have cg:=Aa Q;clear s Q F G X m S ar V;generalize x.step=xs at *;generalize x.I=ch at *;go_wp2_with (go_at_call 65;refine bj.mono ?_)
     first | rintro e r bl rfl H o7 I Y | rintro e r ⟨bl,rfl,H,o7,I,Y⟩
     obtain⟨t,ck,cn,v,cv,l⟩:=bl;have H:Bl.I ⟨t,ck,cn,v,cv,l⟩=ch:=H;have o7:A5 wr.heap.size r cv l:=o7;have I:Ah l:=I;obtain⟨va,y,rfl,_⟩:=Ak (A5.row o7);have bm:=(aI r.heap.size r).alloc (aG _) (aJ #[.int .i64 t,aA ck,aA cn,aA v,aB va l.length y] 93);have bn:(r.alloc (aJ #[.int .i64 t,aA ck,aA cn,aA v,aB va l.length y] 93)).ownsRow a.heap.size 93 5 (aB ap ds.length aq) ds.length (ds.flatMap Bl.cells):=(show r.ownsRow a.heap.size 93 5 (aB ap ds.length aq) ds.length (ds.flatMap Bl.cells) from Az.head (bk.out.V Y)).alloc _;have G:=Bz r #[.int .i64 t,aA ck,aA cn,aA v,aB va l.length y] 93 5 rfl;have bo:∀u∈(#[.int .i64 t,aA ck,aA cn,aA v,aB va l.length y]:Array Value).toList,u.oneCell'=true:=by intro u bp;simp at bp;rcases bp with rfl | rfl | rfl | rfl | rfl <;> rfl
     have c2:=Y.size;have ci:=Aa o7;have S7:=Aa I;have cj:=Aa H;clear bj c0 o7 I H;generalize bq:l.length=br at *;have c5:=Aa bq;clear bq;go_wp2_with (at_builtin;refine A8 (by rfl) _ _ 34 (by rfl) a.heap.size 93 i0 _ 5 80 underlying34 bz b0 b1 b2 rfl (by decide) _ ds.length _ (by rfl) bn _ 1 _ (by rfl) G bo ?c3 ?c4 (by rw[aN];omega) ?_)
     case c3=>unfold maxLen;omega
     case c4=>omega
     intro cl cm co bt bu bv;have au:=NZ (tl:=ds.flatMap Bl.ah) (rest:=rest) (new:=CE (aB va br y) l) bk.out cd ci.out Y bm bt bu (by rw[aN];exact bv);have cp:=Aa (show Sa a.heap.size a o n rest (aB cl (ds.length+1) cm) (.int .i64 ((k:Int)+1)) co from⟨k+1,ds++[⟨t,ck,cn,v,aB va br y,l⟩],by rw[aT];rfl,by omega,by
      rw[ce.out,aQ,aV,<-cj.out],fun c m=>by
      rcases aZ.1 m with m | m
      ·exact cg.out c m
      ·rw[aU.1 m];exact S7.out,by simp;omega,by
      unfold Pq;rw[bC,bC,bE,bG,bG];exact au.1,R.trans (au.2.mono (aG _))⟩)
     clear bn G bo bt bu bv au bm;go_wp2;go_roundw;case rel=>exact cp.out
     case measure=>simp[intOf];omega
    ·obtain rfl:k=n:=by omega
     have cq:o.take k=o:=by rw[<-bf.out,<-ao.out,<-aL (f:=Bl.I),bF]
     rw[cq]at F;have C:=Aa (show Hv N w (aR (aB ap ds.length aq)) wr from⟨_,ds,rfl,by rw[b4.out,F],Q,by omega,Az.mono (Az.left s) bh,cb.out.trans (R.mono bh)⟩);clear s Q F;generalize ds.length=c6 at *;go_wp2;go_ret;exact C.out
