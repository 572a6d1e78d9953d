import Derived.Test.YtpdahhnjhggocaaGreatDoorMr16
import Derived.Handy
open Go.Proofs.Tryz
open Go.Value renaming string->aA,slice->aB,agg->aM,tuple->bK,slice->cG
open List renaming getElem?_cons_zero->aC,getElem?_toArray->aD,getElem?_cons_succ->aE,setIfInBounds_toArray->aK,length_map->aL,set_cons_zero->aP,map_append->aQ,append_nil->aS,mem_singleton->aU,map_singleton->aV,mem_append->aZ,mem_cons_self->bA,flatMap_append->bC,set_cons_succ->bD,length_append->bE,take_length->bG,flatMap_singleton->bH,mem_filter->bQ,getElem?_append_right->bR,map_cons->bT,getElem?_eq_getElem->bU,length_eq_zero_iff->bV,perm_append_comm->bY,length_filter_le->bZ,mem_cons_of_mem->cA,append_assoc->cE,map_map->cH
open Go.World renaming block_lt_of_cell?->aF,size_alloc->aN
open Nat renaming le_refl->aG,ne_of_lt->aX,le_of_lt->aY,ne_of_gt->bM,le_trans->bN,sub_self->cI,zero_le->cJ
open Option renaming none->aH,some->aW
open Go.RowKit.Below renaming refl->aI
open Go.Obj renaming cells->aJ
open Go.Instr renaming typeAssert->aO,field->bB
open Go.Ending renaming returned->aR
open Int renaming natCast_add->aT
open Go renaming bodyPost_ret->bF,wpList_store_row->bJ,setRow_heap->bS,results->bW,TypeId->bX,maxLen->cC,info_parts->cF
open Go.NoPanic renaming normal->bI
open Go.Operand renaming tmp->bL
open Ne renaming symm->bO
open Bool renaming and_eq_true->bP
open Go.Op renaming store->cB
open Go.Oper renaming mk->cD
namespace Go.Proofs.YtpdahhnjhggocaaGreatDoor
open Go.RowKit
set_option maxHeartbeats 16000000
set_option maxRecDepth 100000
variable {w w':World}{g q m c:Nat}{cs:Array Value}{ls:List LAt}
theorem JA(k n:ByteArray)(w:World):Calls prog 315 #[aM #[aA k,aA n]] w fun e w'=>e=aR (aM #[aA k,aA n])/\Below w.heap.size w w':=by
 go_enter func315,ntmps315;go_wp2;have a:=Ai (w.alloc (aJ #[aA k,aA n] 73)) (aJ #[aA k,aA n] 73);rw[aN]at a;have b:=Aa a 0;have c:=Aa a 1;simp only[aD,aC,aE]at b c;exact bF (v:=aM #[aA k,aA n]) (by simp[bW,results315,go_sem,b,c]) rfl ⟨rfl,((aI w.heap.size w).alloc (aG _) _).alloc (by simp) _⟩
def BB(w:World)(g:Nat)(cs:Array Value)(T:bX):Prop:=w.heap[g]?=aW (aJ cs T (0,0))
theorem BB.lt{T:bX}(h:BB w g cs T):g<w.heap.size:=(Array.getElem?_eq_some_iff.1 h).1
theorem BB.V{T:bX}(h:BB w g cs T)(a:Below w.heap.size w w'):BB w' g cs T:=(a.block g h.lt).trans h
theorem BB.new(w:World)(cs:Array Value)(T:bX):BB (w.alloc (aJ cs T)) w.heap.size cs T:=Ai w _
theorem BB.set{T:bX}(h:BB w g cs T)(i:Nat)(v:Value):BB (w.setCell ⟨g,i,aH⟩ v) g (cs.setIfInBounds i v) T:=heap_setCell_same w g i cs T v h
theorem BB.other{T:bX}(h:BB w g cs T)(i:Nat)(v:Value)(a:g≠q):BB (w.setCell ⟨q,i,aH⟩ v) g cs T:=(heap_setCell_other w ⟨q,i,aH⟩ g v a).trans h
theorem Qa(p:Value)(W:World):(aO (.iface 182 p) 91 182 true).run prog W=.ok (bK #[p,.bool true]) W:=by kernel_rfl
theorem SV(p:Value)(W:World):(aO (.iface 185 p) 91 182 true).run prog W=.ok (bK #[aM #[aA ⟨#[]⟩,aA ⟨#[]⟩],.bool false]) W:=by kernel_rfl
theorem UW(p:Value)(W:World):(aO (.iface 185 p) 91 185 true).run prog W=.ok (bK #[p,.bool true]) W:=by kernel_rfl
theorem SW(p:Value)(W:World):(aO (.iface 188 p) 91 182 true).run prog W=.ok (bK #[aM #[aA ⟨#[]⟩,aA ⟨#[]⟩],.bool false]) W:=by kernel_rfl
theorem UX(p:Value)(W:World):(aO (.iface 188 p) 91 185 true).run prog W=.ok (bK #[aM #[aA ⟨#[]⟩,aA ⟨#[]⟩,aB aH 0 0],.bool false]) W:=by kernel_rfl
theorem UY(p:Value)(W:World):(aO (.iface 188 p) 91 188 true).run prog W=.ok (bK #[p,.bool true]) W:=by kernel_rfl
theorem NX(p:Value)(W:World):(aO (.iface 190 p) 91 182 true).run prog W=.ok (bK #[aM #[aA ⟨#[]⟩,aA ⟨#[]⟩],.bool false]) W:=by kernel_rfl
theorem Qb(p:Value)(W:World):(aO (.iface 190 p) 91 185 true).run prog W=.ok (bK #[aM #[aA ⟨#[]⟩,aA ⟨#[]⟩,aB aH 0 0],.bool false]) W:=by kernel_rfl
theorem Qc(p:Value)(W:World):(aO (.iface 190 p) 91 188 true).run prog W=.ok (bK #[aM #[aA ⟨#[]⟩,aA ⟨#[]⟩,aA ⟨#[]⟩,aB aH 0 0],.bool false]) W:=by kernel_rfl
theorem MT(p:Value)(W:World):(aO (.iface 190 p) 91 190 true).run prog W=.ok (bK #[p,.bool true]) W:=by kernel_rfl
theorem Xt(k n:ByteArray)(w:World):Calls prog 65 #[.iface 182 (aM #[aA k,aA n])] w fun e w'=>e=aR (aM #[.int .i64 1,aA k,aA n,aA ⟨#[]⟩,aB aH 0 0])/\Below w.heap.size w w':=by
 have g:=fun W=>JA k n W
 have h:=(aI w.heap.size w).alloc (aG _) (aJ #[.int .i64 0,aA ⟨#[]⟩,aA ⟨#[]⟩,aA ⟨#[]⟩,aB aH 0 0] 93);have s:=BB.new w #[.int .i64 0,aA ⟨#[]⟩,aA ⟨#[]⟩,aA ⟨#[]⟩,aB aH 0 0] 93;have t0:=fun W=>Qa (aM #[aA k,aA n]) W
 have O:∀W,(bB 73 (aM #[aA k,aA n]) 0).run prog W=.ok (aA k) W:=fun W=>by kernel_rfl
 have P:∀W,(bB 73 (aM #[aA k,aA n]) 1).run prog W=.ok (aA n) W:=fun W=>by kernel_rfl
 go_enter func65,ntmps65;go_upto_region 1 with fail
 generalize w.alloc (aJ #[.int .i64 0,aA ⟨#[]⟩,aA ⟨#[]⟩,aA ⟨#[]⟩,aB aH 0 0] 93)=W1 at *;go_wp2_with (go_at_call 315;refine(g _).mono ?_)
 rintro e w2 ⟨rfl,c⟩;go_wp2_with (go_at_call 315;refine(g _).mono ?_)
 rintro e w3 ⟨rfl,i⟩;have j:=h.trans ((c.trans (i.mono c.size)).mono h.size);have l:=(s.V c).V i;have m:=(aI w3.heap.size w3).alloc (aG _) (aJ #[.int .i64 0,aA k,aA n,aA ⟨#[]⟩,aB aH 0 0] 93);have o:=BB.new w3 #[.int .i64 0,aA k,aA n,aA ⟨#[]⟩,aB aH 0 0] 93;have t:=l.V m;have p:=j.trans (m.mono j.size);have u:w.heap.size<w3.heap.size:=l.lt;clear s l c i m h j g;go_upto_region 4 with fail
 generalize w3.alloc (aJ #[.int .i64 0,aA k,aA n,aA ⟨#[]⟩,aB aH 0 0] 93)=W4 at *;generalize w3.heap.size=C at *;have d:=(aI W4.heap.size W4).alloc (aG _) (aJ #[aA k,aA n] 182);have f:=o.V d;have x:=t.V d;have I:=BB.new W4 #[aA k,aA n] 182;have y:=p.trans (d.mono p.size);have Q:C<W4.heap.size:=o.lt;clear o t d p;go_upto_region 5 with fail
 generalize W4.alloc (aJ #[aA k,aA n] 182)=J at *;generalize W4.heap.size=S at *;have K:=Ac f 0;have z:=Aa f 0;simp only[aD,aC]at z;have a:=f.set 0 (.int .i64 1);have A:=x.other 0 (.int .i64 1) (aX u);have B:=Ad y ⟨C,0,aH⟩ (aY u) (.int .i64 1);simp only[aK,aP]at a;go_upto_region 19 with fail
 generalize J.setCell ⟨C,0,aH⟩ (.int .i64 1)=r at *;clear K z f x y I;have c0:=Aa a 0;have L:=Aa a 1;have c2:=Aa a 2;have c3:=Aa a 3;have c4:=Aa a 4;simp only[aD,aC,aE]at c0 L c2 c3 c4;have M:=B.grown (D8 r w.heap.size #[.int .i64 1,aA k,aA n,aA ⟨#[]⟩,aB aH 0 0]) B.size (fun q N=>by cases N;exact aG _);have b:=bS r w.heap.size _ #[.int .i64 1,aA k,aA n,aA ⟨#[]⟩,aB aH 0 0] _ _ A;go_wp2_with (with_reducible show wpList _ _ _ (cD _ (cB _ (bL 2) _) _ _ _ _::_) _ _;refine bJ rfl 93 (.tmp 2) (.tmp 46) rfl w.heap.size #[.int .i64 1,aA k,aA n,aA ⟨#[]⟩,aB aH 0 0] ?_ ?_ 93 #[.int .i64 0,aA ⟨#[]⟩,aA ⟨#[]⟩,aA ⟨#[]⟩,aB aH 0 0] ?_ ?_ ?_ ?_ ?_)
 all_goals (first|exact A|rfl|kernel_rfl|skip)
 generalize r.setRow w.heap.size #[.int .i64 1,aA k,aA n,aA ⟨#[]⟩,aB aH 0 0]=R at *;have D:=Aa b 0;have E:=Aa b 1;have F:=Aa b 2;have G:=Aa b 3;have H:=Aa b 4;simp only[aD,aC,aE]at D E F G H;exact bF (v:=aM #[.int .i64 1,aA k,aA n,aA ⟨#[]⟩,aB aH 0 0]) (by simp[bW,results65,go_sem,D,E,F,G,H]) rfl ⟨rfl,M⟩
theorem UZ(k n key:ByteArray)(w:World):Calls prog 65 #[.iface 190 (aM #[aA k,aA n,aA key])] w fun e w'=>e=aR (aM #[.int .i64 4,aA k,aA n,aA key,aB aH 0 0])/\Below w.heap.size w w':=by
 have j:=fun W=>JA k n W
 have l:=(aI w.heap.size w).alloc (aG _) (aJ #[.int .i64 0,aA ⟨#[]⟩,aA ⟨#[]⟩,aA ⟨#[]⟩,aB aH 0 0] 93);have y:=BB.new w #[.int .i64 0,aA ⟨#[]⟩,aA ⟨#[]⟩,aA ⟨#[]⟩,aB aH 0 0] 93;have t0:=fun W=>NX (aM #[aA k,aA n,aA key]) W
 have X:=fun W=>Qb (aM #[aA k,aA n,aA key]) W
 have t2:=fun W=>Qc (aM #[aA k,aA n,aA key]) W
 have t3:=fun W=>MT (aM #[aA k,aA n,aA key]) W
 have Y:∀W,(bB 73 (aM #[aA k,aA n]) 0).run prog W=.ok (aA k) W:=fun W=>by kernel_rfl
 have Z:∀W,(bB 73 (aM #[aA k,aA n]) 1).run prog W=.ok (aA n) W:=fun W=>by kernel_rfl
 go_enter func65,ntmps65;go_upto_region 1 with fail
 generalize w.alloc (aJ #[.int .i64 0,aA ⟨#[]⟩,aA ⟨#[]⟩,aA ⟨#[]⟩,aB aH 0 0] 93)=W1 at *;go_wp2_with (go_at_call 315;refine(j _).mono ?_)
 rintro e w2 ⟨rfl,f⟩;go_wp2_with (go_at_call 315;refine(j _).mono ?_)
 rintro e w3 ⟨rfl,m⟩;have o:=l.trans ((f.trans (m.mono f.size)).mono l.size);have p:=(y.V f).V m;have r:=(aI w3.heap.size w3).alloc (aG _) (aJ #[.int .i64 0,aA k,aA n,aA ⟨#[]⟩,aB aH 0 0] 93);have s:=BB.new w3 #[.int .i64 0,aA k,aA n,aA ⟨#[]⟩,aB aH 0 0] 93;have z:=p.V r;have t:=o.trans (r.mono o.size);have g:w.heap.size<w3.heap.size:=p.lt;clear y p f m r l o j;go_upto_region 16 with fail
 generalize w3.alloc (aJ #[.int .i64 0,aA k,aA n,aA ⟨#[]⟩,aB aH 0 0] 93)=W4 at *;generalize w3.heap.size=C at *;have h:=(aI W4.heap.size W4).alloc (aG _) (aJ #[aA k,aA n,aA key] 190);have i:=s.V h;have A:=z.V h;have B:=BB.new W4 #[aA k,aA n,aA key] 190;have D:=t.trans (h.mono t.size);have P:C<W4.heap.size:=s.lt;clear s z h t;go_upto_region 17 with fail
 generalize W4.alloc (aJ #[aA k,aA n,aA key] 190)=Q at *;generalize W4.heap.size=S at *;have u:=Ac i 0;have b:=Aa i 0;simp only[aD,aC]at b;have c:=i.set 0 (.int .i64 4);have E:=A.other 0 (.int .i64 4) (aX g);have F:=Ad D ⟨C,0,aH⟩ (aY g) (.int .i64 4);simp only[aK,aP]at c;go_upto_region 18 with fail
 have G:=B.other (q:=C) 0 (.int .i64 4) (bM P);generalize Q.setCell ⟨C,0,aH⟩ (.int .i64 4)=R at *;clear u b i A D B;have H:=Aa G 2;simp only[aD,aC,aE]at H;have u:=Ac c 3;have b:=Aa c 3;simp only[aD,aC,aE]at b;have a:=c.set 3 (aA key);have I:=E.other 3 (aA key) (aX g);have J:=Ad F ⟨C,3,aH⟩ (aY g) (aA key);simp only[aK,aP,bD]at a;go_upto_region 19 with fail
 generalize R.setCell ⟨C,3,aH⟩ (aA key)=x at *;clear u b c E F G H;have c0:=Aa a 0;have T:=Aa a 1;have c2:=Aa a 2;have c3:=Aa a 3;have c4:=Aa a 4;simp only[aD,aC,aE]at c0 T c2 c3 c4;have U:=J.grown (D8 x w.heap.size #[.int .i64 4,aA k,aA n,aA key,aB aH 0 0]) J.size (fun q V=>by cases V;exact aG _);have d:=bS x w.heap.size _ #[.int .i64 4,aA k,aA n,aA key,aB aH 0 0] _ _ I;go_wp2_with (with_reducible show wpList _ _ _ (cD _ (cB _ (bL 2) _) _ _ _ _::_) _ _;refine bJ rfl 93 (.tmp 2) (.tmp 46) rfl w.heap.size #[.int .i64 4,aA k,aA n,aA key,aB aH 0 0] ?_ ?_ 93 #[.int .i64 0,aA ⟨#[]⟩,aA ⟨#[]⟩,aA ⟨#[]⟩,aB aH 0 0] ?_ ?_ ?_ ?_ ?_)
 all_goals (first|exact I|rfl|kernel_rfl|skip)
 generalize x.setRow w.heap.size #[.int .i64 4,aA k,aA n,aA key,aB aH 0 0]=aa at *;have K:=Aa d 0;have L:=Aa d 1;have M:=Aa d 2;have N:=Aa d 3;have O:=Aa d 4;simp only[aD,aC,aE]at K L M N O;exact bF (v:=aM #[.int .i64 4,aA k,aA n,aA key,aB aH 0 0]) (by simp[bW,results65,go_sem,K,L,M,N,O]) rfl ⟨rfl,U⟩
theorem Zl(k n:ByteArray){a:Option Addr}(h:Ap w (aB a m c) ls)(ah:Aj ls):Calls prog 65 #[.iface 185 (aM #[aA k,aA n,aB a m c])] w fun e w'=>∃v' ls',e=aR (aM #[.int .i64 2,aA k,aA n,aA ⟨#[]⟩,v'])/\ls'.map LAt.I=ls.map LAt.I/\A4 w.heap.size w' v' ls'/\Below w.heap.size w w':=by
 have x:=fun W=>JA k n W
 have y:=(aI w.heap.size w).alloc (aG _) (aJ #[.int .i64 0,aA ⟨#[]⟩,aA ⟨#[]⟩,aA ⟨#[]⟩,aB aH 0 0] 93);have K:=BB.new w #[.int .i64 0,aA ⟨#[]⟩,aA ⟨#[]⟩,aA ⟨#[]⟩,aB aH 0 0] 93;have t0:=fun W=>SV (aM #[aA k,aA n,aB a m c]) W
 have au:=fun W=>UW (aM #[aA k,aA n,aB a m c]) W
 have av:∀W,(bB 73 (aM #[aA k,aA n]) 0).run prog W=.ok (aA k) W:=fun W=>by kernel_rfl
 have aw:∀W,(bB 73 (aM #[aA k,aA n]) 1).run prog W=.ok (aA n) W:=fun W=>by kernel_rfl
 go_enter func65,ntmps65;go_upto_region 1 with fail
 generalize w.alloc (aJ #[.int .i64 0,aA ⟨#[]⟩,aA ⟨#[]⟩,aA ⟨#[]⟩,aB aH 0 0] 93)=W1 at *;go_wp2_with (go_at_call 315;refine(x _).mono ?_)
 rintro e w2 ⟨rfl,l⟩;go_wp2_with (go_at_call 315;refine(x _).mono ?_)
 rintro e w3 ⟨rfl,z⟩;have A:=y.trans ((l.trans (z.mono l.size)).mono y.size);have B:=(K.V l).V z;have D:=(aI w3.heap.size w3).alloc (aG _) (aJ #[.int .i64 0,aA k,aA n,aA ⟨#[]⟩,aB aH 0 0] 93);have E:=BB.new w3 #[.int .i64 0,aA k,aA n,aA ⟨#[]⟩,aB aH 0 0] 93;have L:=B.V D;have F:=A.trans (D.mono A.size);have o:w.heap.size<w3.heap.size:=B.lt;clear K B l z D y A x;go_upto_region 7 with fail
 generalize w3.alloc (aJ #[.int .i64 0,aA k,aA n,aA ⟨#[]⟩,aB aH 0 0] 93)=W4 at *;generalize w3.heap.size=C at *;have p:=(aI W4.heap.size W4).alloc (aG _) (aJ #[aA k,aA n,aB a m c] 185);have r:=E.V p;have M:=L.V p;have N:=BB.new W4 #[aA k,aA n,aB a m c] 185;have O:=F.trans (p.mono F.size);have ai:C<W4.heap.size:=E.lt;clear E L p F;go_upto_region 8 with fail
 generalize W4.alloc (aJ #[aA k,aA n,aB a m c] 185)=aj at *;generalize W4.heap.size=S at *;have G:=Ac r 0;have i:=Aa r 0;simp only[aD,aC]at i;have s:=r.set 0 (.int .i64 2);have P:=M.other 0 (.int .i64 2) (aX o);have H:=Ad O ⟨C,0,aH⟩ (aY o) (.int .i64 2);simp only[aK,aP]at s;go_upto_region 9 with fail
 have Q:=N.other (q:=C) 0 (.int .i64 2) (bM ai);generalize aj.setCell ⟨C,0,aH⟩ (.int .i64 2)=I at *;clear G i r M O N;have R:=Aa Q 2;simp only[aD,aC,aE]at R;have T:=FD (w:=I) (h.V H) ah;have ak:C<I.heap.size:=s.lt;go_wp2_with (go_at_call 94;refine T.mono ?_)
 rintro e al ⟨ax,U,rfl,V,o8,t⟩;have u:=s.V t;have X:=P.V t;have Y:=H.trans (t.mono H.size);have Z:=Ab o8;have am:=Ab V;obtain⟨b,d,rfl,_⟩:=Al o8.row;clear T Q s P R o8 V;generalize an:U.length=f at *;clear an;have G:=Ac u 4;have i:=Aa u 4;simp only[aD,aC,aE]at i;have g:=u.set 4 (aB b f d);have aa:=X.other 4 (aB b f d) (aX o);have ab:=Ad Y ⟨C,4,aH⟩ (aY o) (aB b f d);simp only[aK,aP,bD]at g;go_upto_region 19 with fail
 have ao:=Ab (((Z.out.setCell ⟨C,4,aH⟩ ak (aB b f d)).setRow w.heap.size (by omega) #[.int .i64 2,aA k,aA n,aA ⟨#[]⟩,aB b f d]).mono (show w.heap.size<=I.heap.size by omega));generalize al.setCell ⟨C,4,aH⟩ (aB b f d)=J at *;clear G i u X Y Z t;have c0:=Aa g 0;have ap:=Aa g 1;have c2:=Aa g 2;have c3:=Aa g 3;have c4:=Aa g 4;simp only[aD,aC,aE]at c0 ap c2 c3 c4;have aq:=ab.grown (D8 J w.heap.size #[.int .i64 2,aA k,aA n,aA ⟨#[]⟩,aB b f d]) ab.size (fun q ar=>by cases ar;exact aG _);have j:=bS J w.heap.size _ #[.int .i64 2,aA k,aA n,aA ⟨#[]⟩,aB b f d] _ _ aa;go_wp2_with (with_reducible show wpList _ _ _ (cD _ (cB _ (bL 2) _) _ _ _ _::_) _ _;refine bJ rfl 93 (.tmp 2) (.tmp 46) rfl w.heap.size #[.int .i64 2,aA k,aA n,aA ⟨#[]⟩,aB b f d] ?_ ?_ 93 #[.int .i64 0,aA ⟨#[]⟩,aA ⟨#[]⟩,aA ⟨#[]⟩,aB aH 0 0] ?_ ?_ ?_ ?_ ?_)
 all_goals (first|exact aa|rfl|kernel_rfl|skip)
 generalize J.setRow w.heap.size #[.int .i64 2,aA k,aA n,aA ⟨#[]⟩,aB b f d]=ay at *;have ac:=Aa j 0;have ad:=Aa j 1;have ae:=Aa j 2;have af:=Aa j 3;have ag:=Aa j 4;simp only[aD,aC,aE]at ac ad ae af ag;exact bF (v:=aM #[.int .i64 2,aA k,aA n,aA ⟨#[]⟩,aB b f d]) (by simp[bW,results65,go_sem,ac,ad,ae,af,ag]) rfl ⟨_,U,rfl,am.out,ao.out,aq⟩
theorem Zm(k n key:ByteArray){a:Option Addr}(h:Ap w (aB a m c) ls)(an:Aj ls):Calls prog 65 #[.iface 188 (aM #[aA k,aA n,aA key,aB a m c])] w fun e w'=>∃v' ls',e=aR (aM #[.int .i64 3,aA k,aA n,aA key,v'])/\ls'.map LAt.I=ls.map LAt.I/\A4 w.heap.size w' v' ls'/\Below w.heap.size w w':=by
 have z:=fun W=>JA k n W
 have A:=(aI w.heap.size w).alloc (aG _) (aJ #[.int .i64 0,aA ⟨#[]⟩,aA ⟨#[]⟩,aA ⟨#[]⟩,aB aH 0 0] 93);have M:=BB.new w #[.int .i64 0,aA ⟨#[]⟩,aA ⟨#[]⟩,aA ⟨#[]⟩,aB aH 0 0] 93;have t0:=fun W=>SW (aM #[aA k,aA n,aA key,aB a m c]) W
 have a0:=fun W=>UX (aM #[aA k,aA n,aA key,aB a m c]) W
 have t2:=fun W=>UY (aM #[aA k,aA n,aA key,aB a m c]) W
 have a1:∀W,(bB 73 (aM #[aA k,aA n]) 0).run prog W=.ok (aA k) W:=fun W=>by kernel_rfl
 have a2:∀W,(bB 73 (aM #[aA k,aA n]) 1).run prog W=.ok (aA n) W:=fun W=>by kernel_rfl
 go_enter func65,ntmps65;go_upto_region 1 with fail
 generalize w.alloc (aJ #[.int .i64 0,aA ⟨#[]⟩,aA ⟨#[]⟩,aA ⟨#[]⟩,aB aH 0 0] 93)=W1 at *;go_wp2_with (go_at_call 315;refine(z _).mono ?_)
 rintro e w2 ⟨rfl,r⟩;go_wp2_with (go_at_call 315;refine(z _).mono ?_)
 rintro e w3 ⟨rfl,B⟩;have D:=A.trans ((r.trans (B.mono r.size)).mono A.size);have E:=(M.V r).V B;have F:=(aI w3.heap.size w3).alloc (aG _) (aJ #[.int .i64 0,aA k,aA n,aA ⟨#[]⟩,aB aH 0 0] 93);have G:=BB.new w3 #[.int .i64 0,aA k,aA n,aA ⟨#[]⟩,aB aH 0 0] 93;have N:=E.V F;have H:=D.trans (F.mono D.size);have i:w.heap.size<w3.heap.size:=E.lt;clear M E r B F A D z;go_upto_region 11 with fail
 generalize w3.alloc (aJ #[.int .i64 0,aA k,aA n,aA ⟨#[]⟩,aB aH 0 0] 93)=W4 at *;generalize w3.heap.size=C at *;have s:=(aI W4.heap.size W4).alloc (aG _) (aJ #[aA k,aA n,aA key,aB a m c] 188);have t:=G.V s;have O:=N.V s;have P:=BB.new W4 #[aA k,aA n,aA key,aB a m c] 188;have Q:=H.trans (s.mono H.size);have R:C<W4.heap.size:=G.lt;clear G N s H;go_upto_region 12 with fail
 generalize W4.alloc (aJ #[aA k,aA n,aA key,aB a m c] 188)=ao at *;generalize W4.heap.size=S at *;have l:=Ac t 0;have g:=Aa t 0;simp only[aD,aC]at g;have o:=t.set 0 (.int .i64 3);have T:=O.other 0 (.int .i64 3) (aX i);have U:=Ad Q ⟨C,0,aH⟩ (aY i) (.int .i64 3);simp only[aK,aP]at o;go_upto_region 13 with fail
 have I:=P.other (q:=C) 0 (.int .i64 3) (bM R);generalize ao.setCell ⟨C,0,aH⟩ (.int .i64 3)=ap at *;clear l g t O Q P;have V:=Aa I 2;simp only[aD,aC,aE]at V;have l:=Ac o 3;have g:=Aa o 3;simp only[aD,aC,aE]at g;have u:=o.set 3 (aA key);have X:=T.other 3 (aA key) (aX i);have J:=Ad U ⟨C,3,aH⟩ (aY i) (aA key);simp only[aK,aP,bD]at u;go_upto_region 14 with fail
 have Y:=I.other (q:=C) 3 (aA key) (bM R);generalize ap.setCell ⟨C,3,aH⟩ (aA key)=K at *;clear l g o T U I V;have Z:=Aa Y 3;simp only[aD,aC,aE]at Z;have aa:=FD (w:=K) (h.V J) an;have aq:C<K.heap.size:=u.lt;go_wp2_with (go_at_call 94;refine aa.mono ?_)
 rintro e ar ⟨a3,ab,rfl,ac,o8,x⟩;have y:=u.V x;have ad:=X.V x;have ae:=J.trans (x.mono J.size);have af:=Ab o8;have au:=Ab ac;obtain⟨b,d,rfl,_⟩:=Al o8.row;clear aa Y u X Z o8 ac;generalize av:ab.length=f at *;clear av;have l:=Ac y 4;have g:=Aa y 4;simp only[aD,aC,aE]at g;have j:=y.set 4 (aB b f d);have ag:=ad.other 4 (aB b f d) (aX i);have ah:=Ad ae ⟨C,4,aH⟩ (aY i) (aB b f d);simp only[aK,aP,bD]at j;go_upto_region 19 with fail
 have aw:=Ab (((af.out.setCell ⟨C,4,aH⟩ aq (aB b f d)).setRow w.heap.size (by omega) #[.int .i64 3,aA k,aA n,aA key,aB b f d]).mono (show w.heap.size<=K.heap.size by omega));generalize ar.setCell ⟨C,4,aH⟩ (aB b f d)=L at *;clear l g y ad ae af x;have c0:=Aa j 0;have ax:=Aa j 1;have c2:=Aa j 2;have c3:=Aa j 3;have c4:=Aa j 4;simp only[aD,aC,aE]at c0 ax c2 c3 c4;have ay:=ah.grown (D8 L w.heap.size #[.int .i64 3,aA k,aA n,aA key,aB b f d]) ah.size (fun q az=>by cases az;exact aG _);have p:=bS L w.heap.size _ #[.int .i64 3,aA k,aA n,aA key,aB b f d] _ _ ag;go_wp2_with (with_reducible show wpList _ _ _ (cD _ (cB _ (bL 2) _) _ _ _ _::_) _ _;refine bJ rfl 93 (.tmp 2) (.tmp 46) rfl w.heap.size #[.int .i64 3,aA k,aA n,aA key,aB b f d] ?_ ?_ 93 #[.int .i64 0,aA ⟨#[]⟩,aA ⟨#[]⟩,aA ⟨#[]⟩,aB aH 0 0] ?_ ?_ ?_ ?_ ?_)
 all_goals (first|exact ag|rfl|kernel_rfl|skip)
 generalize L.setRow w.heap.size #[.int .i64 3,aA k,aA n,aA key,aB b f d]=a4 at *;have ai:=Aa p 0;have aj:=Aa p 1;have ak:=Aa p 2;have al:=Aa p 3;have am:=Aa p 4;simp only[aD,aC,aE]at ai aj ak al am;exact bF (v:=aM #[.int .i64 3,aA k,aA n,aA key,aB b f d]) (by simp[bW,results65,go_sem,ai,aj,ak,al,am]) rfl ⟨_,ab,rfl,au.out,aw.out,ay⟩
variable {B n:Nat}{w0 w2 W w3:World}{v vk v3 v2:Value}
theorem Ts:(Tryz.prog.info? 91).map (fun i=>(i.zero,i.size,i.bytes))=aW (aW .nilIface,1,16):=by kernel_rfl
def Bl.step(c:Bl):Value :=
 if c.what=1 then .iface 182 (aM #[aA c.aa,aA c.name])
 else if c.what=2 then .iface 185 (aM #[aA c.aa,aA c.name,c.v])
 else if c.what=3 then .iface 188 (aM #[aA c.aa,aA c.name,aA c.key,c.v])
 else .iface 190 (aM #[aA c.aa,aA c.name,aA c.key])
theorem Bl.step_one(c:Bl):c.step.oneCell'=true:=by
 unfold Bl.step;split
 ·rfl
 split
 ·rfl
 split <;> rfl
def Vo(w:World)(c:Bl):Prop:=(c.what=1/\c.key=⟨#[]⟩/\c.ls=[])\/(c.what=2/\c.key=⟨#[]⟩/\Ap w c.v c.ls)\/(c.what=3/\Ap w c.v c.ls)\/(c.what=4/\c.ls=[])
def FX(w:World)(c:Bl):Prop:=(c.what=1/\c.key=⟨#[]⟩/\c.ls=[])\/(c.what=2/\c.key=⟨#[]⟩/\Ap w c.v c.ls)\/(c.what=3/\∀x∈c.ls,BL w x)\/(c.what=4/\c.ls=[])
def Bl.own(c:Bl):List MRow:=if c.what=3 then [⟨c.v,115,2,c.ls.length,c.ls.flatMap LAt.cells⟩] else []
def E0(v:Value)(cs:List Bl):List MRow:=⟨v,91,1,cs.length,cs.map Bl.step⟩::cs.flatMap Bl.own
theorem Aca{cs:List Bl}(h:Ay B w (E0 v cs))(f:Below w0.heap.size w0 w){c:Bl}(g:c∈cs)(a:FX w0 c):Vo w c:=by
 rcases a with a|⟨h1,i,b⟩|⟨h1,b⟩|a
 ·exact .inl a
 ·exact .inr (.inl ⟨h1,i,b.V f⟩)
 ·refine .inr (.inr (.inl ⟨h1,?_⟩));obtain⟨A,C,e⟩:=Gs Bl.own g;have j:Ay B w (A++(c.own++C)):=by rw[<-e];exact Ay.tail h
  have d:=(Ay.right j).left;unfold Bl.own at d;rw[if_pos h1]at d;exact⟨AF (Ay.head d),fun x k=>(b x k).V f⟩
 ·exact .inr (.inr (.inr a))
theorem Nj(B:Nat)(w:World):Ay B w (E0 (aB aH 0 0) []):=⟨fun r a=>by rw[aU.1 a];exact World.ownsRow_nil _ _ 91 1,by simp[E0]⟩
theorem Nk{wc:World}{E:bX}{size n':Nat}{a b:List Value}{tl new rest:List MRow}(h:Ay B wc (⟨vk,E,size,n,a⟩::(tl++rest)))(c:B<=wc.heap.size)(o2:Ay wc.heap.size w2 new)(d:Below wc.heap.size wc w2)(e:Below w2.heap.size w2 W)
  (i:w3.ownsRow B E size v3 n' b) (f:W.grownBy w3 vk.ownBlock) (j:v3.ownBlock=vk.ownBlock\/v3.ownBlock=aW W.heap.size) :
  Ay B w3 (⟨v3,E,size,n',b⟩::(tl++new++rest))/\Below B wc w3:=by
 have l:Ay B w2 (new++(⟨vk,E,size,n,a⟩::(tl++rest))):=Ay.join h o2 d c;have g:Ay B w2 (⟨vk,E,size,n,a⟩::(tl++new++rest)):=l.perm (by
  rw[cE];exact List.perm_middle.trans ((List.perm_append_comm_assoc _ _ _).cons _))
 have m:=g.V e;have o:=m.grow (r':=⟨v3,E,size,n',b⟩) i f j;have p:=d.size;exact⟨o,((d.mono c).trans (e.mono (by omega))).grown f (bN c (bN p e.size)) (fun k q=>(Ay.lt g (bA ..) q).1)⟩
theorem GB{wc:World}{done:List Bl}{x:Bl}{rest:List MRow}(a:Ay B wc (E0 vk done++rest))(b:B<=wc.heap.size)(o2:Ay wc.heap.size w2 x.own)(c:Below wc.heap.size wc w2)(d:Below w2.heap.size w2 W)
  (e:w3.ownsRow B 91 1 v3 (done.length+1) (done.map Bl.step++[x.step])) (f:W.grownBy w3 vk.ownBlock) (g:v3.ownBlock=vk.ownBlock\/v3.ownBlock=aW W.heap.size) :
  Ay B w3 (E0 v3 (done++[x])++rest)/\Below B wc w3:=by
 have h:=Nk (tl:=done.flatMap Bl.own) (rest:=rest) a b o2 c d e f g;refine⟨?_,h.2⟩;unfold E0;rw[aQ,aV,bC,bH,bE];exact h.1
theorem Vp{wc:World}{done new:List Bl}(a:Ay B wc (E0 vk done))(b:B<=wc.heap.size)(o2:Ay wc.heap.size w2 (E0 v2 new))(c:Below wc.heap.size wc w2)(d:Below w2.heap.size w2 W)
  (e:w3.ownsRow B 91 1 v3 (done.length+new.length) (done.map Bl.step++new.map Bl.step)) (f:W.grownBy w3 vk.ownBlock) (g:v3.ownBlock=vk.ownBlock\/v3.ownBlock=aW W.heap.size) :
  Ay B w3 (E0 v3 (done++new))/\Below B wc w3:=by
 have h:=Nk (tl:=done.flatMap Bl.own) (rest:=[]) (by rw[aS];exact a) b (Ay.tail o2) c d e f g;refine⟨?_,h.2⟩;unfold E0;rw[aQ,bC,bE];have:=h.1;rw[aS]at this;exact this
theorem Q8{c:Bl}(h:Vo w c)(f:Aj c.ls):Calls prog 65 #[c.step] w fun e w'=>∃x:Bl,e=aR (aM #[.int .i64 x.what,aA x.aa,aA x.name,aA x.key,x.v])/\x.I=c.I/\A4 w.heap.size w' x.v x.ls/\Aj x.ls/\Below w.heap.size w w':=by
 obtain⟨j,k,n,key,v,ls⟩:=c;unfold Vo at h;unfold Bl.step Bl.I;simp only at *;rcases h with ⟨rfl,rfl,rfl⟩|⟨rfl,rfl,h⟩|⟨rfl,h⟩|⟨rfl,rfl⟩
 ·exact(Xt k n w).mono fun e w' ⟨b,d⟩=>⟨⟨1,k,n,⟨#[]⟩,aB aH 0 0,[]⟩,b,rfl,Km _ _,f,d⟩
 ·obtain⟨a,c,rfl⟩:=h.1.ad;exact(Zl k n h f).mono fun e w' ⟨v',ls',b,g,i,d⟩=>⟨⟨2,k,n,⟨#[]⟩,v',ls'⟩,b,by simp only[g],i,f.same g,d⟩
 ·obtain⟨a,c,rfl⟩:=h.1.ad;exact(Zm k n key h f).mono fun e w' ⟨v',ls',b,g,i,d⟩=>⟨⟨3,k,n,key,v',ls'⟩,b,by simp only[g],i,f.same g,d⟩
 ·exact(UZ k n key w).mono fun e w' ⟨b,d⟩=>⟨⟨4,k,n,key,aB aH 0 0,[]⟩,b,rfl,Km _ _,f,d⟩
variable {h:Nat}{yk yn rk:ByteArray}{yv:Value}{y:BAt}
theorem GC(k n:ByteArray)(a:Option Addr)(m c:Nat)(w:World):Calls prog 47 #[aM #[aA k,aA n,aB a m c]] w fun e w'=>e=aR (aM #[aA k,aA n])/\Below w.heap.size w w':=by
 go_enter func47,ntmps47;go_wp2;have b:=Ai (w.alloc (aJ #[aA k,aA n,aB a m c] 46)) (aJ #[aA k,aA n] 73);rw[aN]at b;have d:=Aa b 0;have f:=Aa b 1;simp only[aD,aC,aE]at d f;exact bF (v:=aM #[aA k,aA n]) (by simp[bW,results47,go_sem,d,f]) rfl ⟨rfl,((aI w.heap.size w).alloc (aG _) _).alloc (by simp) _⟩
theorem ZC{k:ByteArray}:∀ {P Q:List PLine},(∀x∈P,x.key=k)->(∀x∈Q,x.key=k)->P.map PLine.ws=Q.map PLine.ws->P=Q
 | [],[],_,_,_=>rfl
 | [],_::_,_,_,h=>by cases h
 | _::_,[],_,_,h=>by cases h
 | a::P,b::Q,h1,d,h=>by
  rw[bT,bT,List.cons.injEq]at h;have e:=ZC (fun x c=>h1 x (cA _ c)) (fun x c=>d x (cA _ c)) h.2;have f:=h1 a (bA ..);have g:=d b (bA ..);obtain⟨i,j⟩:=a;obtain⟨bk,l⟩:=b;simp only at f g h;rw[e,f,g,h.1]
theorem Wf{P:List PLine}{k:ByteArray}:∀x∈GH P k,x.key=k:=fun x a=>OD (by
 have:=(bQ.1 a).2;exact beq_iff_eq.1 this)
theorem Tt{xs ys:List LAt}{P Q:List PLine}{k:ByteArray}(a:xs.map LAt.I=GH P k)(b:ys.map LAt.I=GH Q k):xs.map LAt.ws=ys.map LAt.ws↔GH P k=GH Q k:=by
 have c:xs.map LAt.ws=(GH P k).map PLine.ws:=by rw[<-a,cH];rfl
 have d:ys.map LAt.ws=(GH Q k).map PLine.ws:=by rw[<-b,cH];rfl
 rw[c,d];exact⟨fun h=>ZC Wf Wf h,fun h=>by rw[h]⟩
def GD(g h:Nat)(yk yn:ByteArray)(yv:Value)(rk:ByteArray)(W:World):Prop:=W.cell? ⟨g,0,aH⟩=aW (aA yk)/\W.cell? ⟨g,1,aH⟩=aW (aA yn)/\W.cell? ⟨g,2,aH⟩=aW yv/\W.cell? ⟨h,0,aH⟩=aW (aA rk)
theorem GD.V(s:GD g h yk yn yv rk w)(a:Below w.heap.size w W):GD g h yk yn yv rk W:=⟨(a.cell (aF w _ s.1)).trans s.1,(a.cell (aF w _ s.2.1)).trans s.2.1,(a.cell (aF w _ s.2.2.1)).trans s.2.2.1,(a.cell (aF w _ s.2.2.2)).trans s.2.2.2⟩
theorem GD.aj{row:Option Nat}(s:GD g h yk yn yv rk w)(a:w.grownBy W row)(h1:row≠aW g)(b:row≠aW h):GD g h yk yn yv rk W:=⟨(a.cell_far ⟨g,0,aH⟩ (aF w _ s.1) (bO h1)).trans s.1,(a.cell_far ⟨g,1,aH⟩ (aF w _ s.2.1) (bO h1)).trans s.2.1,(a.cell_far ⟨g,2,aH⟩ (aF w _ s.2.2.1) (bO h1)).trans s.2.2.1,(a.cell_far ⟨h,0,aH⟩ (aF w _ s.2.2.2) (bO b)).trans s.2.2.2⟩
def Wg(P:List PChange)(w0 w:World)(e:Ending)(w':World):Prop:=∃v' a,e=aR v'/\a.map Bl.I=P/\(∀c∈a,FX w0 c/\Aj c.ls)/\Ay w.heap.size w' (E0 v' a)/\a.length<=12/\Below w.heap.size w w'
def Nl(B:Nat)(w0 w2:World)(yk yn:ByteArray)(P Q:List PLine)(a:Nat)(b:List MRow)(d i:Value)(wr:World):Prop:=∃(k:Nat) (cs:List Bl),i=.int .i64 (k:Int)/\k<=a/\cs.map Bl.I=((rulesOf yk).take k).flatMap (fun p=>Dx yk yn P Q p.1)/\(∀c∈cs,FX w0 c/\Aj c.ls)/\cs.length<=k/\Ay B wr (E0 d cs++b)/\Below B w2 wr
theorem Li{x:BAt}(b9:Below w0.heap.size w0 w)(aa:Bf w0 x)(ab:Bf w0 y)(ca:Aj x.ls)(cb:Aj y.ls):Calls prog 133 #[aM #[aA x.aa,aA x.name,x.v],aM #[aA y.aa,aA y.name,y.v]] w fun e w'=>Wg (Ip ⟨y.aa,y.name,x.ls.map LAt.I⟩ y.I) w0 w e w':=by
 obtain⟨xk,ac,eb,g⟩:=x;obtain⟨yk,yn,yv,b⟩:=y;unfold Bf at aa ab;simp only at *;obtain⟨xa,xc,rfl⟩:=aa.1.ad;obtain⟨d,yc,rfl⟩:=ab.1.ad;have cc:Below w.heap.size w ((w.alloc (aJ #[aA xk,aA ac,aB xa g.length xc] 46)).alloc (aJ #[aA yk,aA yn,aB d b.length yc] 46)):=((aI w.heap.size w).alloc (aG _) _).alloc (by simp) _;have cd:((w.alloc (aJ #[aA xk,aA ac,aB xa g.length xc] 46)).alloc (aJ #[aA yk,aA yn,aB d b.length yc] 46)).heap.size=w.heap.size+2:=by simp
 have dn:=(BB.new w #[aA xk,aA ac,aB xa g.length xc] 46).V ((aI _ _).alloc (aG _) (aJ #[aA yk,aA yn,aB d b.length yc] 46));have a4:=BB.new (w.alloc (aJ #[aA xk,aA ac,aB xa g.length xc] 46)) #[aA yk,aA yn,aB d b.length yc] 46;rw[aN]at a4;have ec:=Ab (show Ap w0 (aB xa g.length xc) g from aa);have dp:=Ab (show Ap w0 (aB d b.length yc) b from ab);have ce:=b9.trans (cc.mono b9.size);have dq:=Ab (Ap.V aa ce);have dr:=Ab (Ap.V ab ce);have a6:=Ab ca;have a7:=Ab cb;generalize cf:(w.alloc (aJ #[aA xk,aA ac,aB xa g.length xc] 46)).alloc (aJ #[aA yk,aA yn,aB d b.length yc] 46)=w2 at *;have ds:=Ab cf;have cg:=Nj (w.heap.size+2) w2;have b0:=Aa a4 0;simp only[aD,aC]at b0;have ch:=fun W=>CU yk W
 obtain⟨i0,ci,cj,ck,cl⟩:=cF Ts;clear aa ab ca cb cf;generalize cm:g.length=ed at *;have ee:=Ab cm;clear cm;generalize cn:b.length=l at *;have ef:=Ab cn;clear cn;go_enter func133,ntmps133;go_upto_region 2 with fail
 rw[ds.out];go_wp2_with (go_at_call 29;refine(ch _).mono ?_)
 rintro e ao ⟨vr,L,rfl,a8,ap,a9⟩;have eg:=DX yk a8;have co:=Ab a8;have dt:=Ab (Bh.rin ap).2;obtain⟨cp,cq,rfl,_⟩:=Al (show ao.ownsRow _ 54 4 vr L.length (L.flatMap AL.cells) from Ay.head ap);obtain⟨B,ba⟩:∃B,(⟨aB cp L.length cq,54,4,L.length,L.flatMap AL.cells⟩::L.flatMap AL.rows:List MRow)=B:=⟨_,rfl⟩;have cr:Ay (w.heap.size+2) ao (E0 (aB aH 0 0) []++B):=by
  rw[<-ba];exact(Ay.join cg ap a9 (by omega)).perm bY
 have V:Below (w.heap.size+2) w2 ao:=a9.mono (by omega);have ct:=Ab (show Nl (w.heap.size+2) w0 w2 yk yn (g.map LAt.I) (b.map LAt.I) L.length B (aB aH 0 0) (.int .i64 0) ao from⟨0,[],rfl,by omega,by simp,by simp,by simp,cr,V⟩);have du:=Ab ba;clear ap a9 a8 ch cg cr V b0 ba;generalize cu:L.length=v at *;have cv:=Ab cu;clear cu;go_wp2;go_loopw [5,14] (fun dv i wr=>Nl (w.heap.size+2) w0 w2 yk yn (g.map LAt.I) (b.map LAt.I) v B dv i wr) (fun _ i _=>v-(intOf i).toNat)
 case atStart=>exact ct.out
 case round =>
  clear ct;obtain⟨k,cs,rfl,eh,aq,ar,ei,H,au⟩:=hrel;obtain⟨I,J,rfl,_⟩:=Al (show wr.ownsRow (w.heap.size+2) 91 1 _ cs.length (cs.map Bl.step) from Ay.head H);have dw:=au.size;rw[cd]at dw;have aw:Below w2.heap.size w2 wr:=by rw[cd];exact au
  by_cases ej:k<v
  ·obtain⟨D,r,T,ax,bb⟩:=AC L k (by have:=cv.out;omega);have A:Am wr (aB cp v cq) v 4 (L.flatMap AL.cells):=by
    have:=Ay.right H;rw[<-du.out]at this;have h:=AF (Ay.head this);exact h
   rw[ax]at A;obtain⟨ek,el,rfl,cw,bc,cx,bd⟩:=A.rule;rw[bb]at cw bc cx bd;obtain⟨⟨av,be,bf,cy⟩,⟨bg,bh,bi,cz⟩⟩:=dt.out r (by rw[ax];simp);rw[cy]at bc;rw[cz]at bd;have em:(0:Int)<=(k:Int):=by omega
   have en:(k:Int)<(v:Int):=by omega
   have bj:=Ab (show ((rulesOf yk).take (k+1)).flatMap (fun p=>Dx yk yn (g.map LAt.I) (b.map LAt.I) p.1)=cs.map Bl.I++Dx yk yn (g.map LAt.I) (b.map LAt.I) r.key from by
    have e:rulesOf yk=D.map AL.I++r.I::T.map AL.I:=by rw[<-co.out,ax];simp
    rw[H8 _ e (by rw[aL];exact bb),aq];rfl)
   have ay:=Ab (show ∀q,(cG I cs.length J).ownBlock=aW q->w.heap.size+2<=q/\q<wr.heap.size from fun q dx=>Ay.lt H (List.mem_append_left _ (bA ..)) dx);have c0:=Ab H;have bk:=Ab ar;clear H ar aq A ax bb cy cz;generalize r.key=rk at *;generalize r.many=bl at *;have X:=(aI wr.heap.size wr).alloc (aG _) (aJ #[aA rk,aB av be bf,.bool bl,aB bg bh bi] 54);have bm:=BB.new wr #[aA rk,aB av be bf,.bool bl,aB bg bh bi] 54;have c1:=(dn.V aw).V X;have c2:=(a4.V aw).V X;have c3:=Ab ((dq.out.V aw).V X);have c4:=Ab ((dr.out.V aw).V X);have c6:=Ab (c0.out.V X);have V:=au.trans (X.mono (by omega));go_upto_region 5 with fail
   generalize wr.alloc (aJ #[aA rk,aB av be bf,.bool bl,aB bg bh bi] 54)=W4 at *;clear cw bc cx bd c0;have a2:=Aa c1 2;have c7:=Aa bm 0;simp only[aD,aC,aE]at a2 c7;have c8:=FT rk c3.out a6.out.1;go_wp2_with (go_at_call 158;refine c8.mono ?_)
   first|rintro e az v5 rfl o5 C|rintro e az ⟨v5,rfl,o5,C⟩
   have c9:=Ab (Iv g rk);have da:=Ab (show ∀j∈withKey g rk,j∈g from fun j o=>(bQ.1 o).1);have dy:(withKey g rk).length<=1048576:=bN (bZ _ _) a6.out.1;have a0:=Ab (Iv b rk);have bn:=Ab (show ∀j∈withKey b rk,j∈b from fun j o=>(bQ.1 o).1);have db:(withKey b rk).length<=1048576:=bN (bZ _ _) a7.out.1;have dc:=FT rk (c4.out.V C) a7.out.1;generalize withKey g rk=ad at *;generalize withKey b rk=s at *;obtain⟨a5,c5,rfl,_⟩:=Al o5;have bo:=c2.V C;have bp:=bm.V C;have dd:=Aa bo 2;have de:=Aa bp 0;simp only[aD,aC,aE]at dd de;have dz:=Ab (show Ap az (aB a5 ad.length c5) ad from⟨AF o5,fun j o=>(c3.out.2 j (da.out j o)).V C⟩);have d0:=Ab (show Aj ad from⟨dy,fun j o=>a6.out.2 j (da.out j o)⟩);clear c8 o5 a2 c7;generalize d1:ad.length=eo at *;clear d1;go_wp2_with (go_at_call 158;refine dc.mono ?_)
   first|rintro e df d2 rfl o6 E|rintro e df ⟨d2,rfl,o6,E⟩
   obtain⟨F,G,rfl,_⟩:=Al o6;have dg:=Ab (show Aj s from⟨db,fun j o=>a7.out.2 j (bn.out j o)⟩);have d3:=Ab (show Ap df (aB F s.length G) s from⟨AF o6,fun j o=>((c4.out.V C).2 j (bn.out j o)).V E⟩);have d4:=Ab o6;have a1:=UV (dz.out.V E) d3.out d0.out dg.out;have bq:=bo.V E;have br:=bp.V E;have M:=V.trans (C.mono (by have:=V.size;omega));have ae:=Ab (c6.out.V C);generalize dh:decide (ad.map LAt.ws=s.map LAt.ws)=d5 at a1;have di:=Ab dh;clear dc o6 dd de bo bp c2 bm c1 dh V c6;generalize dj:s.length=z at *;have bs:=Ab dj;clear dj;have ep:z<=1048576:=db;go_wp2_with (go_at_call 177;refine a1.mono ?_)
   rintro e m ⟨rfl,af⟩;have N:=E.trans (af.mono E.size);have dk:=M.trans (N.mono (by have:=M.size;omega));cases d5
   ·have dl:=Ab (show ¬GH (g.map LAt.I) rk=GH (b.map LAt.I) rk from fun h=>of_decide_eq_false di.out ((Tt c9.out a0.out).2 h));have a3:=bq.V af;have dm:=br.V af;clear a1 bq br;have d6:=Ab (AI d4.out af);have bt:=Aa a3 0;have bu:=Aa a3 1;have bv:=Aa a3 2;have bw:=Aa dm 0;simp only[aD,aC,aE]at bt bu bv bw;have Y:=Ab (show GD (w.heap.size+1) wr.heap.size yk yn (aB d l yc) rk m from⟨bt,bu,bv,bw⟩);clear bt bu bv bw a3 dm;by_cases bx:z=0
    ·have bz:=Ab (show s.map LAt.I=[] from by rw[bV.1 (bs.out.trans bx)];rfl);subst bx;have t0:∀p:{ W:World // GD (w.heap.size+1) wr.heap.size yk yn (aB d l yc) rk W },p.1.cell? ⟨w.heap.size+1,0,aH⟩=aW (aA yk):=fun p=>p.2.1
     have b1:∀p:{ W:World // GD (w.heap.size+1) wr.heap.size yk yn (aB d l yc) rk W },p.1.cell? ⟨w.heap.size+1,1,aH⟩=aW (aA yn):=fun p=>p.2.2.1
     have t2:∀p:{ W:World // GD (w.heap.size+1) wr.heap.size yk yn (aB d l yc) rk W },p.1.cell? ⟨w.heap.size+1,2,aH⟩=aW (aB d l yc):=fun p=>p.2.2.2.1
     have t3:∀p:{ W:World // GD (w.heap.size+1) wr.heap.size yk yn (aB d l yc) rk W },p.1.cell? ⟨wr.heap.size,0,aH⟩=aW (aA rk):=fun p=>p.2.2.2.2
     letI:Inhabited { W:World // GD (w.heap.size+1) wr.heap.size yk yn (aB d l yc) rk W }:=⟨⟨m,Y.out⟩⟩;have ag:Below m.heap.size m m.drew:=(aI _ _).drew;have b2:=GC yk yn d l yc m.drew;go_upto_region 9 with fail
     refine AK (S:=(GD (w.heap.size+1) wr.heap.size yk yn (aB d l yc) rk)) 9 10 (by kernel_rfl) rfl ?_;refine A9 [true,true,false,true,true,false,false,false,false,false] 6 rfl (by kernel_rfl) (Y.out.V ag) ?_;simp only[AZ,Bc,AX];iterate 4 (refine A2 (fun K a=>?_);go_simp;refine a _ ?_;clear a K)
     refine A8 ?_;clear t0 b1 t2 t3;refine Af (f:=5) (rs:=[2]) (by kernel_rfl) (by simp) ?_;refine Ag.cons rfl (by decide) (fun K a=>?_) Ag.nil;go_simp;go_wp2_with (go_at_call 47;refine b2.mono ?_;rintro e n ⟨rfl,b3⟩)
     have Z:Below m.heap.size m n:=ag.trans b3;have O:=Y.out.V Z;refine a.out _ _ O ?_;clear a K;refine A9 [false,false,false,false,false,true,true,false,false,false] 3 rfl (by kernel_rfl) O ?_;simp only[AZ,Bc,AX];iterate 2 (refine A2 (fun K a=>?_);go_simp;refine a _ ?_;clear a K)
     refine A8 ?_;refine Af (f:=2) (rs:=[7]) (by kernel_rfl) (by simp) ?_;refine Ag.cons rfl (by decide) (fun K a=>?_) Ag.nil;go_simp;have P:=(aI n.heap.size n).alloc (aG _) (aJ #[(.iface 190 (aM #[aA yk,aA yn,aA rk]))] 91);have Q:=N.trans (Z.mono N.size);have ah:(n.alloc (aJ #[(.iface 190 (aM #[aA yk,aA yn,aA rk]))] 91)).ownsRow (w.heap.size+2) 91 1 (aB I cs.length J) cs.length (cs.map Bl.step):=(show n.ownsRow (w.heap.size+2) 91 1 (aB I cs.length J) cs.length (cs.map Bl.step) from Ay.head (ae.out.V Q)).alloc _;have A:=Bn n #[(.iface 190 (aM #[aA yk,aA yn,aA rk]))] 91 1 rfl;have ai:∀u∈(#[(.iface 190 (aM #[aA yk,aA yn,aA rk]))]:Array Value).toList,u.oneCell'=true:=by intro u aj;simp at aj;rw[aj];rfl
     have ak:=O.V P;refine a.out _ _ ak ?_;clear a K;refine Af (f:=1) (rs:=[8]) (by kernel_rfl) (by simp) ?_;refine Ag.cons rfl (by decide) (fun K a=>?_) Ag.nil;have d7:=M.size;have d8:=Q.size;refine A0 rfl _ _ 88 rfl (w.heap.size+2) 91 i0 _ 1 16 underlying88 ci cj ck cl rfl (by decide) _ cs.length _ rfl ah _ 1 _ rfl A ai (by unfold cC;omega) (by omega) (by rw[aN];omega) ?_;intro b4 b5 b6 al R am;have U:=GB (x:=⟨4,yk,yn,rk,aB aH 0 0,[]⟩) ae.out (by omega) (⟨fun _ h=>(by cases h),(by simp)⟩:Ay az.heap.size n []) Q P al R am;have b7:=M.trans (U.2.mono (by omega));have b8:=ak.aj R (fun e=>by have:=(ay.out _ e).1;omega) (fun e=>by have:=(ay.out _ e).2;omega);refine a.out _ _ b8 ?_;clear a K;have an:=Ab (show Nl (w.heap.size+2) w0 w2 yk yn (g.map LAt.I) (b.map LAt.I) v B (aB b4 (cs.length+1) b5) (.int .i64 ((k:Int)+1)) b6 from⟨k+1,cs++[⟨4,yk,yn,rk,aB aH 0 0,[]⟩],by rw[aT];rfl,by omega,by
      rw[bj.out,aQ,aV];unfold Dx;rw[if_neg dl.out];show _=_++[(⟨_,yk,yn,rk,GH (b.map LAt.I) rk⟩:PChange)]
      rw[<-a0.out,bz.out,if_pos (by rfl)];rfl,fun c t=>by
      rcases aZ.1 t with t|t
      ·exact bk.out c t
      ·rw[aU.1 t];exact⟨.inr (.inr (.inr ⟨rfl,rfl⟩)),cJ _,fun _ h=>by cases h⟩,by simp;omega,U.1,b7⟩)
     clear ah A ai al R am U P;refine Bi (by kernel_rfl) rfl (by kernel_rfl) ?_;intro K a;go_simp;refine a.out _ _ (bI ?_);clear a K;go_wp2;go_roundw;case rel=>exact an.out
     case measure=>simp[intOf];omega
    ·have eq:((z:Int)==0)=false:=by rw[beq_eq_false_iff_ne];omega
     have bz:=Ab (show s.map LAt.I≠[] from fun e=>bx (by rw[<-bs.out];exact bV.2 (List.map_eq_nil_iff.1 e)));have t0:∀p:{ W:World // GD (w.heap.size+1) wr.heap.size yk yn (aB d l yc) rk W },p.1.cell? ⟨w.heap.size+1,0,aH⟩=aW (aA yk):=fun p=>p.2.1
     have b1:∀p:{ W:World // GD (w.heap.size+1) wr.heap.size yk yn (aB d l yc) rk W },p.1.cell? ⟨w.heap.size+1,1,aH⟩=aW (aA yn):=fun p=>p.2.2.1
     have t2:∀p:{ W:World // GD (w.heap.size+1) wr.heap.size yk yn (aB d l yc) rk W },p.1.cell? ⟨w.heap.size+1,2,aH⟩=aW (aB d l yc):=fun p=>p.2.2.2.1
     have t3:∀p:{ W:World // GD (w.heap.size+1) wr.heap.size yk yn (aB d l yc) rk W },p.1.cell? ⟨wr.heap.size,0,aH⟩=aW (aA rk):=fun p=>p.2.2.2.2
     letI:Inhabited { W:World // GD (w.heap.size+1) wr.heap.size yk yn (aB d l yc) rk W }:=⟨⟨m,Y.out⟩⟩;have ag:Below m.heap.size m m.drew:=(aI _ _).drew;have b2:=GC yk yn d l yc m.drew;go_upto_region 10 with fail
     refine AK (S:=(GD (w.heap.size+1) wr.heap.size yk yn (aB d l yc) rk)) 10 11 (by kernel_rfl) rfl ?_;refine A9 [true,true,false,true,true,true,false,false,false,false,false] 6 rfl (by kernel_rfl) (Y.out.V ag) ?_;simp only[AZ,Bc,AX];iterate 5 (refine A2 (fun K a=>?_);go_simp;refine a _ ?_;clear a K)
     refine A8 ?_;clear t0 b1 t2 t3;refine Af (f:=5) (rs:=[2]) (by kernel_rfl) (by simp) ?_;refine Ag.cons rfl (by decide) (fun K a=>?_) Ag.nil;go_simp;go_wp2_with (go_at_call 47;refine b2.mono ?_;rintro e n ⟨rfl,b3⟩)
     have Z:Below m.heap.size m n:=ag.trans b3;have O:=Y.out.V Z;refine a.out _ _ O ?_;clear a K;refine A9 [false,false,false,false,false,false,true,true,false,false,false] 3 rfl (by kernel_rfl) O ?_;simp only[AZ,Bc,AX];iterate 2 (refine A2 (fun K a=>?_);go_simp;refine a _ ?_;clear a K)
     refine A8 ?_;refine Af (f:=2) (rs:=[8]) (by kernel_rfl) (by simp) ?_;refine Ag.cons rfl (by decide) (fun K a=>?_) Ag.nil;go_simp;have P:=(aI n.heap.size n).alloc (aG _) (aJ #[(.iface 188 (aM #[aA yk,aA yn,aA rk,aB F z G]))] 91);have Q:=N.trans (Z.mono N.size);have ah:(n.alloc (aJ #[(.iface 188 (aM #[aA yk,aA yn,aA rk,aB F z G]))] 91)).ownsRow (w.heap.size+2) 91 1 (aB I cs.length J) cs.length (cs.map Bl.step):=(show n.ownsRow (w.heap.size+2) 91 1 (aB I cs.length J) cs.length (cs.map Bl.step) from Ay.head (ae.out.V Q)).alloc _;have A:=Bn n #[(.iface 188 (aM #[aA yk,aA yn,aA rk,aB F z G]))] 91 1 rfl;have ai:∀u∈(#[(.iface 188 (aM #[aA yk,aA yn,aA rk,aB F z G]))]:Array Value).toList,u.oneCell'=true:=by intro u aj;simp at aj;rw[aj];rfl
     have ak:=O.V P;refine a.out _ _ ak ?_;clear a K;refine Af (f:=1) (rs:=[9]) (by kernel_rfl) (by simp) ?_;refine Ag.cons rfl (by decide) (fun K a=>?_) Ag.nil;have d7:=M.size;have d8:=Q.size;refine A0 rfl _ _ 88 rfl (w.heap.size+2) 91 i0 _ 1 16 underlying88 ci cj ck cl rfl (by decide) _ cs.length _ rfl ah _ 1 _ rfl A ai (by unfold cC;omega) (by omega) (by rw[aN];omega) ?_;intro b4 b5 b6 al R am;have U:=GB (x:=⟨3,yk,yn,rk,aB F z G,s⟩) ae.out (by omega) (Ay.own1 (show n.ownsRow az.heap.size 115 2 (aB F z G) s.length (s.flatMap LAt.cells) from by rw[bs.out];exact AI d6.out Z)) Q P al R am;have b7:=M.trans (U.2.mono (by omega));have b8:=ak.aj R (fun e=>by have:=(ay.out _ e).1;omega) (fun e=>by have:=(ay.out _ e).2;omega);refine a.out _ _ b8 ?_;clear a K;have an:=Ab (show Nl (w.heap.size+2) w0 w2 yk yn (g.map LAt.I) (b.map LAt.I) v B (aB b4 (cs.length+1) b5) (.int .i64 ((k:Int)+1)) b6 from⟨k+1,cs++[⟨3,yk,yn,rk,aB F z G,s⟩],by rw[aT];rfl,by omega,by
      rw[bj.out,aQ,aV];unfold Dx;rw[if_neg dl.out];show _=_++[(⟨_,yk,yn,rk,GH (b.map LAt.I) rk⟩:PChange)]
      rw[<-a0.out,if_neg (by rw[List.isEmpty_iff];exact bz.out)];rfl,fun c t=>by
      rcases aZ.1 t with t|t
      ·exact bk.out c t
      ·rw[aU.1 t];exact⟨.inr (.inr (.inl ⟨rfl,fun j o=>dp.out.2 j (bn.out j o)⟩)),dg.out⟩,by simp;omega,U.1,b7⟩)
     clear ah A ai al R am U P;refine Bi (by kernel_rfl) rfl (by kernel_rfl) ?_;intro K a;go_simp;refine a.out _ _ (bI ?_);clear a K;go_wp2;go_roundw;case rel=>exact an.out
     case measure=>simp[intOf];omega
   ·have d9:=(Tt c9.out a0.out).1 (of_decide_eq_true di.out);have an:=Ab (show Nl (w.heap.size+2) w0 w2 yk yn (g.map LAt.I) (b.map LAt.I) v B (aB I cs.length J) (.int .i64 ((k:Int)+1)) m from⟨k+1,cs,by rw[aT];rfl,by omega,by
     rw[bj.out];unfold Dx;rw[if_pos d9,aS],bk.out,by omega,ae.out.V N,dk⟩)
    clear a1 bq br M E af N dk;go_wp2;go_roundw;case rel=>exact an.out
    case measure=>simp[intOf];omega
  ·obtain rfl:k=v:=by omega
   have ea:=Ab (show Wg (Ip ⟨yk,yn,g.map LAt.I⟩ ⟨yk,yn,b.map LAt.I⟩) w0 w (aR (aB I cs.length J)) wr from⟨_,cs,rfl,by
    rw[aq,<-cv.out,<-aL (f:=AL.I),co.out,bG];rfl,ar,Ay.mono (Ay.left H) (by omega),by omega,cc.trans (au.mono (by omega))⟩)
   clear H ar aq;generalize cs.length=er at *;go_wp2;go_ret;exact ea.out
variable {kind name:ByteArray}{i:Nat}
theorem FY{P:List PBlock}{t:Nat}(a:t<P.length):Dt P kind name t=blockCmp P[t].aa P[t].name kind name:=by
 unfold Dt;rw[bU a]
theorem Nn{b:PBlock}:blockCmp b.aa b.name kind name=0↔AB kind name b=true:=by
 unfold blockCmp orI AB;rw[bP,beq_iff_eq,beq_iff_eq];by_cases h:DP b.aa.toList kind.toList=0
 ·rw[if_pos h,EL];rw[EL]at h;exact⟨fun k=>⟨h,k⟩,fun k=>k.2⟩
 ·rw[if_neg h];exact⟨fun k=>absurd k h,fun k=>absurd ((EL _ _).2 k.1) h⟩
theorem Acb{P:List PBlock}{q:PBlock->Bool}(a:i<P.length)(h:q P[i]=true)(b:∀t (d:t<P.length),t<i->q P[t]=false):P.find? q=aW P[i]:=by
 rw[List.find?_eq_some_iff_getElem];exact⟨h,i,a,rfl,fun j c=>by rw[b j (by omega) c];rfl⟩
theorem ZD{P:List PBlock}(h:L3 P kind name i)(a:i<P.length)(b:Dt P kind name i=0):P.find? (AB kind name)=aW P[i]:=by
 refine Acb a (Nn.1 (by rw[<-FY a];exact b)) fun t c d=>?_
 have h1:=h.2.1 t d;rw[FY c]at h1;cases e:AB kind name P[t]
 ·rfl
 ·rw[Nn.2 e]at h1;exact absurd h1 (by decide)
theorem Wh{P:List PBlock}(m:P.Pairwise (fun a b=>blockLt a b=true))(h:L3 P kind name i)(n:¬(i<P.length/\Dt P kind name i=0)):P.find? (AB kind name)=aH:=by
 rw[List.find?_eq_none];intro b o c;obtain⟨t,d,rfl⟩:=List.mem_iff_getElem.1 o;have l:=Nn.2 c;have p:¬t<i:=fun f=>by
  have:=h.2.1 t f;rw[FY d,l]at this;exact absurd this (by decide)
 rcases Nat.lt_or_ge i t with f|q
 ·have g:i<P.length:=by omega
  have h1:=List.pairwise_iff_getElem.1 m i t g d f;have j:=h.2.2 i (aG _) g;rw[FY g]at j;have k:=(Cc P[i] P[t]).2 h1;unfold AB at c;rw[bP,beq_iff_eq,beq_iff_eq]at c;unfold blockCmp at j k;rw[c.1,c.2]at k;exact j k
 ·have e:t=i:=by omega
  subst e;exact n ⟨d,by rw[FY d];exact l⟩
variable {va vb:Value}{az bs:List BAt}
def Fl(g:Nat)(k n:ByteArray)(v:Value)(W:World):Prop:=W.cell? ⟨g,0,aH⟩=aW (aA k)/\W.cell? ⟨g,1,aH⟩=aW (aA n)/\W.cell? ⟨g,2,aH⟩=aW v
theorem Fl.V{k n:ByteArray}(s:Fl g k n v w)(a:Below w.heap.size w W):Fl g k n v W:=⟨(a.cell (aF w _ s.1)).trans s.1,(a.cell (aF w _ s.2.1)).trans s.2.1,(a.cell (aF w _ s.2.2)).trans s.2.2⟩
theorem Fl.aj{k n:ByteArray}{row:Option Nat}(s:Fl g k n v w)(a:w.grownBy W row)(h1:row≠aW g):Fl g k n v W:=⟨(a.cell_far ⟨g,0,aH⟩ (aF w _ s.1) (bO h1)).trans s.1,(a.cell_far ⟨g,1,aH⟩ (aF w _ s.2.1) (bO h1)).trans s.2.1,(a.cell_far ⟨g,2,aH⟩ (aF w _ s.2.2) (bO h1)).trans s.2.2⟩
def Kr(g o:Nat)(k n:ByteArray)(v:Value)(W:World):Prop:=W.cell? ⟨g,o,aH⟩=aW (aA k)/\W.cell? ⟨g,o+1,aH⟩=aW (aA n)/\W.cell? ⟨g,o+2,aH⟩=aW v
theorem Kr.upto{o:Nat}{k n:ByteArray}(s:Kr g o k n v w)(a:g<B)(b:Below B w W):Kr g o k n v W:=⟨(b.cell (p:=⟨g,o,aH⟩) a).trans s.1,(b.cell (p:=⟨g,o+1,aH⟩) a).trans s.2.1,(b.cell (p:=⟨g,o+2,aH⟩) a).trans s.2.2⟩
def Q9(P:List PChange)(w:World)(e:Ending)(w':World):Prop:=∃v' a,e=aR v'/\a.map Bl.I=P/\(∀c∈a,FX w c/\Aj c.ls)/\a.length<=14000000/\Ay w.heap.size w' (E0 v' a)/\Below w.heap.size w w'
def Acd(w:World)(A Q:List PBlock)(a:Nat)(b i:Value)(wr:World):Prop:=∃(k:Nat) (cs:List Bl),i=.int .i64 (k:Int)/\k<=a/\cs.map Bl.I=goneS (A.take k) Q/\(∀c∈cs,FX w c/\Aj c.ls)/\cs.length<=k/\Ay w.heap.size wr (E0 b cs)/\Below w.heap.size w wr
def Ace(w:World)(A Q:List PBlock)(a b:Nat)(d i:Value)(wr:World):Prop:=∃(k:Nat) (cs:List Bl),i=.int .i64 (k:Int)/\k<=b/\cs.map Bl.I=goneS A Q++(Q.take k).flatMap (CC A)/\(∀c∈cs,FX w c/\Aj c.ls)/\cs.length<=a+12*k/\Ay w.heap.size wr (E0 d cs)/\Below w.heap.size w wr
theorem Ks(bm:Au w va az)(bn:Au w vb bs)(sa:A3 az)(b3:A3 bs)(b4:AA (az.map BAt.I))(b5:AA (bs.map BAt.I)):Calls prog 64 #[va,vb] w fun e w'=>Q9 (goneS (az.map BAt.I) (bs.map BAt.I)++(bs.map BAt.I).flatMap (CC (az.map BAt.I))) w e w':=by
 obtain⟨ds,dt,rfl⟩:=bm.1.ad;obtain⟨du,dv,rfl⟩:=bn.1.ad;have bo:=Ab bm;have cp:=Ab bn;have dw:=Ab sa;have dx:=Ab b3;have dy:az.length<=1048576:=sa.1;have dz:bs.length<=1048576:=b3.1;have cq:=Ab (show ∀kind name W,Below w.heap.size w W->Calls prog 132 #[aB ds az.length dt,aM #[aA kind,aA name]] W fun e w'=>IQ (az.map BAt.I) kind name W e w' from fun kind name W b6=>Iz kind name (bm.V b6) dy (fun s t h1 a9 b7=>MS b4.2.2 kind name s t h1 (by rw[aL];exact a9) b7));have cr:=Ab (show ∀kind name W,Below w.heap.size w W->Calls prog 132 #[aB du bs.length dv,aM #[aA kind,aA name]] W fun e w'=>IQ (bs.map BAt.I) kind name W e w' from fun kind name W b6=>Iz kind name (bn.V b6) dz (fun s t h1 a9 b7=>MS b5.2.2 kind name s t h1 (by rw[aL];exact a9) b7));have ct:=Ab b4.2.2;have cu:=Ab b5.2.2;have cv:=Nj w.heap.size w;obtain⟨i0,b8,b9,ca,cb⟩:=cF Ts;clear bm bn sa b3 b4 b5;obtain⟨l,bp⟩:∃l,az.map BAt.I=l:=⟨_,rfl⟩;obtain⟨n,bq⟩:∃n,bs.map BAt.I=n:=⟨_,rfl⟩;rw[bp,bq];rw[bp]at cq ct;rw[bq]at cr cu;have br:=Ab bp;have cw:=Ab bq;clear bp bq;generalize cx:az.length=ah at *;have cc:=Ab cx;clear cx;generalize cy:bs.length=ai at *;have cz:=Ab cy;clear cy;have c1:=Ab (show Acd w l n ah (aB aH 0 0) (.int .i64 0) w from⟨0,[],rfl,by omega,by simp[goneS],by simp,by simp,cv,aI _ _⟩);clear cv;go_enter func64,ntmps64;go_wp2;go_loopw [5,16] (fun cd i wr=>Acd w l n ah cd i wr) (fun _ i _=>ah-(intOf i).toNat)
 case atStart=>exact c1.out
 case round =>
  clear c1;obtain⟨k,cs,rfl,eg,O,Z,c5,H,C⟩:=hrel;obtain⟨U,V,rfl,_⟩:=Al (show wr.ownsRow w.heap.size 91 1 _ cs.length (cs.map Bl.step) from Ay.head H);have bt:=C.size;by_cases d0:k<ah
  ·obtain⟨D,x,T,aa,ap⟩:=AC az k (by have:=cc.out;omega);have v:=bo.out.1;rw[aa]at v;obtain⟨g,off,rfl,ab,aq,aj⟩:=v.block;rw[ap]at ab aq aj;have a2:x∈az:=by rw[aa];simp
   obtain⟨xa,xc,c6⟩:=(bo.out.2 x a2).1.ad;rw[c6]at aj;have a3:=Ab (show goneS (l.take (k+1)) n=cs.map Bl.I++(if (n.find? (AB x.aa x.name)).isNone=true then [DT x.I] else []) from by
    have e:l=D.map BAt.I++x.I::T.map BAt.I:=by rw[<-br.out,aa];simp
    have:=MR (B:=n) e;rw[aL,ap]at this;rw[this,O];rfl)
   have d1:=Ab (show DT x.I=Bl.I ⟨1,x.aa,x.name,⟨#[]⟩,aB aH 0 0,[]⟩ from rfl);have ar:=aF w _ ab;have c0:=(C.cell (p:=⟨g,off+k*3,aH⟩) ar).trans ab;have bu:=(C.cell (p:=⟨g,off+k*3+1,aH⟩) ar).trans aq;have c2:=(C.cell (p:=⟨g,off+k*3+2,aH⟩) ar).trans aj;have d2:(0:Int)<=(k:Int):=by omega
   have d3:(k:Int)<(ah:Int):=by omega
   have ba:=Ab H;have bb:=Ab Z;clear H Z O v aa ap ab aq aj c6 a2;generalize x.I=eh at *;generalize x.aa=xk at *;generalize x.name=m at *;generalize x.ls.length=z at *;have au:=(aI wr.heap.size wr).alloc (aG _) (aJ #[aA xk,aA m,aB xa z xc] 46);have P:=BB.new wr #[aA xk,aA m,aB xa z xc] 46;have bc:=Ab (ba.out.V au);have av:=C.trans (au.mono bt);go_upto_region 5 with fail
   generalize wr.alloc (aJ #[aA xk,aA m,aB xa z xc] 46)=W4 at *;clear c0 bu c2 ba au;have I:=Aa P 0;have J:=Aa P 1;have L:=Aa P 2;simp only[aD,aC,aE]at I J L;have aw:=fun W=>GC xk m xa z xc W
   go_wp2_with (go_at_call 47;refine(aw _).mono ?_)
   first|rintro e bd rfl ac|rintro e bd ⟨rfl,ac⟩
   have ad:=av.trans (ac.mono av.size);have be:=P.V ac;have bf:=Ab (bc.out.V ac);clear I J L P bc av;have bg:=cr.out xk m bd ad;go_wp2_with (go_at_call 132;refine bg.mono ?_)
   first|rintro e o i f rfl Q R ae|rintro e o ⟨i,f,rfl,Q,R,ae⟩
   have M:=ad.trans (ae.mono ad.size);have X:=be.V ae;have ak:=Ab (bf.out.V ae);clear be bf bg ad;cases f
   ·have ce:=Ab (Wh cu.out Q (fun h=>by have:=R.2 h;cases this));have I:=Aa X 0;have J:=Aa X 1;have L:=Aa X 2;simp only[aD,aC,aE]at I J L;clear Q R;go_wp2_with (go_at_call 47;refine(aw _).mono ?_)
    first|rintro e N rfl a4|rintro e N ⟨rfl,a4⟩
    have cf:=M.trans (a4.mono M.size);have a5:=(aI N.heap.size N).alloc (aG _) (aJ #[.iface 182 (aM #[aA xk,aA m])] 91);have al:(N.alloc (aJ #[.iface 182 (aM #[aA xk,aA m])] 91)).ownsRow w.heap.size 91 1 (aB U cs.length V) cs.length (cs.map Bl.step):=(show N.ownsRow w.heap.size 91 1 (aB U cs.length V) cs.length (cs.map Bl.step) from Ay.head (ak.out.V a4)).alloc _;have v:=Bn N #[.iface 182 (aM #[aA xk,aA m])] 91 1 rfl;have am:∀u∈(#[.iface 182 (aM #[aA xk,aA m])]:Array Value).toList,u.oneCell'=true:=by intro u ax;simp at ax;rw[ax];rfl
    have ay:=M.size;have d4:=cf.size;clear I J L X aw;go_wp2_with (at_builtin;refine AD (by rfl) _ _ 88 (by rfl) w.heap.size 91 i0 _ 1 16 underlying88 b8 b9 ca cb rfl (by decide) _ cs.length _ (by rfl) al _ 1 _ (by rfl) v am ?c3 ?c4 (by rw[aN];omega) ?_)
    case c3=>unfold cC;omega
    case c4=>omega
    intro bh bi bj an Y ao;have E:=GB (x:=⟨1,xk,m,⟨#[]⟩,aB aH 0 0,[]⟩) (rest:=[]) (by rw[aS];exact ak.out) ay (⟨fun _ h=>(by cases h),(by simp)⟩:Ay o.heap.size N []) a4 a5 an Y (by rw[aN];exact ao);rw[aS]at E;have a0:=Ab (show Acd w l n ah (aB bh (cs.length+1) bi) (.int .i64 ((k:Int)+1)) bj from⟨k+1,cs++[⟨1,xk,m,⟨#[]⟩,aB aH 0 0,[]⟩],by rw[aT];rfl,by omega,by
     rw[a3.out,ce.out,aQ,aV,if_pos (by rfl),d1.out],fun c r=>by
     rcases aZ.1 r with r|r
     ·exact bb.out c r
     ·rw[aU.1 r];exact⟨.inl ⟨rfl,rfl,rfl⟩,cJ _,fun _ h=>by cases h⟩,by simp;omega,E.1,M.trans (E.2.mono (aG _))⟩)
    clear al v am an Y ao E a5;go_wp2;go_roundw;case rel=>exact a0.out
    case measure=>simp[intOf];omega
   ·obtain⟨af,bk⟩:=R.1 rfl;have c7:=Ab (ZD Q af bk);have a0:=Ab (show Acd w l n ah (aB U cs.length V) (.int .i64 ((k:Int)+1)) o from⟨k+1,cs,by rw[aT];rfl,by omega,by
     rw[a3.out,c7.out,if_neg (by simp),aS],bb.out,by omega,ak.out,M⟩)
    clear c7 Q R X aw af bk;go_wp2;go_roundw;case rel=>exact a0.out
    case measure=>simp[intOf];omega
  ·obtain rfl:k=ah:=by omega
   have c8:l.take k=l:=by rw[<-br.out,<-cc.out,<-aL (f:=BAt.I),bG]
   rw[c8]at O;have c9:=Ab (show Ace w l n k ai (aB U cs.length V) (.int .i64 0) wr from⟨0,cs,rfl,by omega,by simp[O],Z,by omega,H,C⟩);clear H Z O C bt c8;generalize cs.length=ei at *;clear c5 cs;go_wp2;go_loopw [5,39] (fun cd i wr=>Ace w l n k ai cd i wr) (fun _ i _=>ai-(intOf i).toNat)
   case atStart=>exact c9.out
   case round =>
    clear c9;obtain⟨j,cs,rfl,ej,O,Z,c5,H,C⟩:=hrel;obtain⟨U,V,rfl,_⟩:=Al (show wr.ownsRow w.heap.size 91 1 _ cs.length (cs.map Bl.step) from Ay.head H);have bt:=C.size;by_cases d0:j<ai
    ·obtain⟨D,y,T,aa,ap⟩:=AC bs j (by have:=cz.out;omega);have v:=cp.out.1;rw[aa]at v;obtain⟨g,off,rfl,ab,aq,aj⟩:=v.block;rw[ap]at ab aq aj;have cg:y∈bs:=by rw[aa];simp
     have da:=cp.out.2 y cg;have db:=(dx.out.2 y cg).2;have a3:=Ab (show goneS l n++(n.take (j+1)).flatMap (CC l)=cs.map Bl.I++CC l y.I from by
      have e:n=D.map BAt.I++y.I::T.map BAt.I:=by rw[<-cw.out,aa];simp
      rw[H8 _ e (by rw[aL];exact ap),O,cE])
     have dc:=Ab (show ∀q,(cG U cs.length V).ownBlock=aW q->q<wr.heap.size from fun q d5=>(Ay.lt H (bA ..) d5).2);obtain⟨yk,yn,yv,A⟩:=y;have ch:Ap w yv A:=da;obtain⟨a,yc,rfl⟩:=ch.1.ad;have dd:=Ab ch;have de:=Ab (show Aj A from db);have df:=Ab (show BAt.I ⟨yk,yn,aB a A.length yc,A⟩=⟨yk,yn,A.map LAt.I⟩ from rfl);have ar:=aF w _ ab;have c0:=(C.cell (p:=⟨g,off+j*3,aH⟩) ar).trans ab;have bu:=(C.cell (p:=⟨g,off+j*3+1,aH⟩) ar).trans aq;have c2:=(C.cell (p:=⟨g,off+j*3+2,aH⟩) ar).trans aj;have d2:(0:Int)<=(j:Int):=by omega
     have d3:(j:Int)<(ai:Int):=by omega
     have ba:=Ab H;have bb:=Ab Z;simp only at c0 bu c2;rw[df.out]at a3;clear H Z O v aa ap ab aq aj cg da ch db df;generalize dg:A.length=b at *;have ek:=Ab dg;clear dg;have au:=(aI wr.heap.size wr).alloc (aG _) (aJ #[aA yk,aA yn,aB a b yc] 46);have P:=BB.new wr #[aA yk,aA yn,aB a b yc] 46;have bc:=Ab (ba.out.V au);have av:=C.trans (au.mono bt);go_upto_region 12 with fail
     generalize wr.alloc (aJ #[aA yk,aA yn,aB a b yc] 46)=W4 at *;clear c0 bu c2 ba au;have I:=Aa P 0;have J:=Aa P 1;have L:=Aa P 2;simp only[aD,aC,aE]at I J L;have aw:=fun W=>GC yk yn a b yc W
     go_wp2_with (go_at_call 47;refine(aw _).mono ?_)
     first|rintro e bd rfl ac|rintro e bd ⟨rfl,ac⟩
     have ad:=av.trans (ac.mono av.size);have be:=P.V ac;have bf:=Ab (bc.out.V ac);clear I J L P bc av;have bg:=cq.out yk yn bd ad;go_wp2_with (go_at_call 132;refine bg.mono ?_)
     first|rintro e o i f rfl Q R ae|rintro e o ⟨i,f,rfl,Q,R,ae⟩
     have M:=ad.trans (ae.mono ad.size);have X:=be.V ae;have ak:=Ab (bf.out.V ae);have ay:=M.size;have I:=Aa X 0;have J:=Aa X 1;have L:=Aa X 2;simp only[aD,aC,aE]at I J L;have a6:=Ab (show Fl wr.heap.size yk yn (aB a b yc) o from⟨I,J,L⟩);clear be bf bg ad X I J L;have a7:Below o.heap.size o o.drew:=(aI _ _).drew;cases f
     ·have ce:=Ab (show l.find? (AB (⟨yk,yn,A.map LAt.I⟩:PBlock).aa (⟨yk,yn,A.map LAt.I⟩:PBlock).name)=aH from Wh ct.out Q (fun h=>by have:=R.2 h;cases this));clear Q R;have t0:∀p:{ W:World // Fl wr.heap.size yk yn (aB a b yc) W },p.1.cell? ⟨wr.heap.size,0,aH⟩=aW (aA yk):=fun p=>p.2.1
      have ci:∀p:{ W:World // Fl wr.heap.size yk yn (aB a b yc) W },p.1.cell? ⟨wr.heap.size,1,aH⟩=aW (aA yn):=fun p=>p.2.2.1
      have t2:∀p:{ W:World // Fl wr.heap.size yk yn (aB a b yc) W },p.1.cell? ⟨wr.heap.size,2,aH⟩=aW (aB a b yc):=fun p=>p.2.2.2
      letI:Inhabited { W:World // Fl wr.heap.size yk yn (aB a b yc) W }:=⟨⟨o,a6.out⟩⟩;have d6:=aw o.drew;go_upto_region 15 with fail
      refine AK (S:=(Fl wr.heap.size yk yn (aB a b yc))) 9 10 (by kernel_rfl) rfl ?_;refine A9 [true,true,false,true,true,false,false,false,false,false] 6 rfl (by kernel_rfl) (a6.out.V a7) ?_;simp only[AZ,Bc,AX];iterate 4 (refine A2 (fun K d=>?_);go_simp;refine d _ ?_;clear d K)
      refine A8 ?_;clear t0 ci t2;refine Af (f:=5) (rs:=[2]) (by kernel_rfl) (by simp) ?_;refine Ag.cons rfl (by decide) (fun K d=>?_) Ag.nil;go_simp;go_wp2_with (go_at_call 47;refine d6.mono ?_;rintro e a1 ⟨rfl,d7⟩)
      have bv:Below o.heap.size o a1:=a7.trans d7;have cj:=a6.out.V bv;refine d.out _ _ cj ?_;clear d K;refine A9 [false,false,false,false,false,true,true,false,false,false] 3 rfl (by kernel_rfl) cj ?_;simp only[AZ,Bc,AX];iterate 2 (refine A2 (fun K d=>?_);go_simp;refine d _ ?_;clear d K)
      refine A8 ?_;refine Af (f:=2) (rs:=[7]) (by kernel_rfl) (by simp) ?_;refine Ag.cons rfl (by decide) (fun K d=>?_) Ag.nil;go_simp;have a5:=(aI a1.heap.size a1).alloc (aG _) (aJ #[(.iface 185 (aM #[aA yk,aA yn,aB a b yc]))] 91);have al:(a1.alloc (aJ #[(.iface 185 (aM #[aA yk,aA yn,aB a b yc]))] 91)).ownsRow w.heap.size 91 1 (aB U cs.length V) cs.length (cs.map Bl.step):=(show a1.ownsRow w.heap.size 91 1 (aB U cs.length V) cs.length (cs.map Bl.step) from Ay.head (ak.out.V bv)).alloc _;have v:=Bn a1 #[(.iface 185 (aM #[aA yk,aA yn,aB a b yc]))] 91 1 rfl;have am:∀u∈(#[(.iface 185 (aM #[aA yk,aA yn,aB a b yc]))]:Array Value).toList,u.oneCell'=true:=by intro u ax;simp at ax;rw[ax];rfl
      have dh:=cj.V a5;refine d.out _ _ dh ?_;clear d K;refine Af (f:=1) (rs:=[8]) (by kernel_rfl) (by simp) ?_;refine Ag.cons rfl (by decide) (fun K d=>?_) Ag.nil;have el:=bv.size;refine A0 rfl _ _ 88 rfl w.heap.size 91 i0 _ 1 16 underlying88 b8 b9 ca cb rfl (by decide) _ cs.length _ rfl al _ 1 _ rfl v am (by unfold cC;omega) (by omega) (by rw[aN];omega) ?_;intro bh bi bj an Y ao;have E:=GB (x:=⟨2,yk,yn,⟨#[]⟩,aB a b yc,A⟩) (rest:=[]) (by rw[aS];exact ak.out) ay (⟨fun _ h=>(by cases h),(by simp)⟩:Ay o.heap.size a1 []) bv a5 an Y ao;rw[aS]at E;have bw:=M.trans (E.2.mono (aG _));have ck:=dh.aj Y (fun e=>by have:=dc.out _ e;omega);refine d.out _ _ ck ?_;clear d K;have a0:=Ab (show Ace w l n k ai (aB bh (cs.length+1) bi) (.int .i64 ((j:Int)+1)) bj from⟨j+1,cs++[⟨2,yk,yn,⟨#[]⟩,aB a b yc,A⟩],by rw[aT];rfl,by omega,by
       rw[a3.out,aQ,aV];unfold CC;rw[ce.out];rfl,fun c r=>by
       rcases aZ.1 r with r|r
       ·exact bb.out c r
       ·rw[aU.1 r];exact⟨.inr (.inl ⟨rfl,rfl,dd.out⟩),de.out⟩,by simp;omega,E.1,bw⟩)
      clear al v am an Y ao E a5;refine Bi (by kernel_rfl) rfl (by kernel_rfl) ?_;intro K d;go_simp;refine d.out _ _ (bI ?_);clear d K;go_wp2;go_roundw;case rel=>exact a0.out
      case measure=>simp[intOf];omega
     ·obtain⟨af,bk⟩:=R.1 rfl;have bx:=ZD Q af bk;have di:i<az.length:=by rw[<-br.out,aL]at af;exact af
      obtain⟨em,x,en,bz,dj⟩:=AC az i di;have dk:l[i]'af=x.I:=by
       have h1:l[i]?=aW x.I:=by rw[<-br.out,bz,List.getElem?_map,bR (by omega),dj,cI];rfl
       rw[bU af]at h1;exact Option.some.inj h1
      rw[dk]at bx;have cl:=bo.out.1;rw[bz]at cl;obtain⟨F,G,rfl,bl,b0,b1⟩:=cl.block;rw[dj]at bl b0 b1;have a2:x∈az:=by rw[bz];simp
      have dl:=(dw.out.2 x a2).2;have cm:=bo.out.2 x a2;have dm:=Li (x:=x) (y:=⟨yk,yn,aB a b yc,A⟩) (w0:=w) (w:=o.drew) (M.trans (a7.mono ay)) cm dd.out dl de.out;have dn:=Ab (show CC l ⟨yk,yn,A.map LAt.I⟩=Ip ⟨yk,yn,x.ls.map LAt.I⟩ ⟨yk,yn,A.map LAt.I⟩ from by
       unfold CC;rw[show l.find? (AB (⟨yk,yn,A.map LAt.I⟩:PBlock).aa (⟨yk,yn,A.map LAt.I⟩:PBlock).name)=aW x.I from bx];have b2:=List.find?_some bx;unfold AB at b2;rw[bP,beq_iff_eq,beq_iff_eq]at b2;have d8:x.I=⟨yk,yn,x.ls.map LAt.I⟩:=by
        rw[<-toList_inj b2.1,<-toList_inj b2.2];rfl
       rw[d8])
      obtain⟨xk,m,d9,cn⟩:=x;have dp:Ap w d9 cn:=cm;obtain⟨xa,xc,rfl⟩:=dp.1.ad;simp only at dm bl b0 b1 dn;have ea:=aF w _ bl;have eb:=Ab (show Kr F (G+i*3) xk m (aB xa cn.length xc) w from⟨bl,b0,b1⟩);have eo:(0:Int)<=(i:Int):=by omega
      have i2:(i:Int)<(k:Int):=by have:=cc.out;omega
      clear cm dp dl a2 cl bz dk bl b0 b1 bx Q R af bk di;generalize ec:cn.length=z at *;clear ec;have co:=Ab (show ∀W,Below w.heap.size w W->Fl wr.heap.size yk yn (aB a b yc) W->Kr F (G+i*3) xk m (aB xa z xc) W/\Fl wr.heap.size yk yn (aB a b yc) W from fun W h1 a9=>⟨eb.out.upto ea h1,a9⟩);have t0:∀p:{ W:World // Kr F (G+i*3) xk m (aB xa z xc) W/\Fl wr.heap.size yk yn (aB a b yc) W },p.1.cell? ⟨wr.heap.size,0,aH⟩=aW (aA yk):=fun p=>p.2.2.1
      have ci:∀p:{ W:World // Kr F (G+i*3) xk m (aB xa z xc) W/\Fl wr.heap.size yk yn (aB a b yc) W },p.1.cell? ⟨wr.heap.size,1,aH⟩=aW (aA yn):=fun p=>p.2.2.2.1
      have t2:∀p:{ W:World // Kr F (G+i*3) xk m (aB xa z xc) W/\Fl wr.heap.size yk yn (aB a b yc) W },p.1.cell? ⟨wr.heap.size,2,aH⟩=aW (aB a b yc):=fun p=>p.2.2.2.2
      have t3:∀p:{ W:World // Kr F (G+i*3) xk m (aB xa z xc) W/\Fl wr.heap.size yk yn (aB a b yc) W },p.1.cell? ⟨F,G+i*3,aH⟩=aW (aA xk):=fun p=>p.2.1.1
      have t4:∀p:{ W:World // Kr F (G+i*3) xk m (aB xa z xc) W/\Fl wr.heap.size yk yn (aB a b yc) W },p.1.cell? ⟨F,G+i*3+1,aH⟩=aW (aA m):=fun p=>p.2.1.2.1
      have t5:∀p:{ W:World // Kr F (G+i*3) xk m (aB xa z xc) W/\Fl wr.heap.size yk yn (aB a b yc) W },p.1.cell? ⟨F,G+i*3+2,aH⟩=aW (aB xa z xc):=fun p=>p.2.1.2.2
      have dq:=co.out _ (M.trans (a7.mono ay)) (a6.out.V a7);letI:Inhabited { W:World // Kr F (G+i*3) xk m (aB xa z xc) W/\Fl wr.heap.size yk yn (aB a b yc) W }:=⟨⟨o.drew,dq⟩⟩;go_upto_region 14 with fail
      refine AK (S:=fun W=>Kr F (G+i*3) xk m (aB xa z xc) W/\Fl wr.heap.size yk yn (aB a b yc) W) 8 9 (by kernel_rfl) rfl ?_;refine A9 [true,true,true,true,true,true,false,false,false] 3 rfl (by kernel_rfl) dq ?_;simp only[AZ,Bc,AX];iterate 6 (refine A2 (fun K d=>?_);go_simp;refine d _ ?_;clear d K)
      refine A8 ?_;clear t0 ci t2 t3 t4 t5;refine Af (f:=2) (rs:=[6]) (by kernel_rfl) (by simp) ?_;refine Ag.cons rfl (by decide) (fun K d=>?_) Ag.nil;go_simp;go_wp2_with (go_at_call 133;refine dm.mono ?_;rintro e N ⟨ep,ag,rfl,dr,ed,o7,eq,a4⟩;obtain⟨er,es,rfl,_⟩:=Al (show N.ownsRow _ 91 1 _ ag.length (ag.map Bl.step) from Ay.head o7))
      have a8:Below o.heap.size o N:=a7.trans a4;have d4:=a8.size;have cf:=M.trans (a8.mono ay);refine d.out _ _ (co.out _ cf (a6.out.V a8)) ?_;clear d K;refine Af (f:=1) (rs:=[7]) (by kernel_rfl) (by simp) ?_;refine Ag.cons rfl (by decide) (fun K d=>?_) Ag.nil;have al:N.ownsRow w.heap.size 91 1 (aB U cs.length V) cs.length (cs.map Bl.step):=Ay.head (ak.out.V a8);have v:=AF (show N.ownsRow _ 91 1 _ ag.length (ag.map Bl.step) from Ay.head o7);have am:∀u∈ag.map Bl.step,u.oneCell'=true:=by intro u ax;obtain⟨c,_,rfl⟩:=List.mem_map.1 ax;exact c.step_one
      refine A0 rfl _ _ 88 rfl w.heap.size 91 i0 _ 1 16 underlying88 b8 b9 ca cb rfl (by decide) _ cs.length _ rfl al _ ag.length _ rfl v am (by unfold cC;omega) (by omega) (by omega) ?_;intro bh bi bj an Y ao;have E:=Vp ak.out ay o7 a8 (aI _ _) an Y ao;have bw:=M.trans (E.2.mono (aG _));have ck:=(a6.out.V a8).aj Y (fun e=>by have:=dc.out _ e;omega);refine d.out _ _ (co.out _ bw ck) ?_;clear d K;have a0:=Ab (show Ace w l n k ai (aB bh (cs.length+ag.length) bi) (.int .i64 ((j:Int)+1)) bj from⟨j+1,cs++ag,by rw[aT];rfl,by omega,by
       rw[a3.out,aQ,dn.out,dr];rfl,fun c r=>by
       rcases aZ.1 r with r|r
       ·exact bb.out c r
       ·exact ed c r,by rw[bE];omega,E.1,bw⟩)
      clear al v am an Y ao E o7 dr;generalize ag.length=et at *;refine Bi (by kernel_rfl) rfl (by kernel_rfl) ?_;intro K d;go_simp;refine d.out _ _ (bI ?_);clear d K;go_wp2;go_roundw;case rel=>exact a0.out
      case measure=>simp[intOf];omega
    ·obtain rfl:j=ai:=by omega
     have ee:n.take j=n:=by rw[<-cw.out,<-cz.out,<-aL (f:=BAt.I),bG]
     rw[ee]at O;have ef:=Ab (show Q9 (goneS l n++n.flatMap (CC l)) w (aR (aB U cs.length V)) wr from⟨_,cs,rfl,O,Z,by omega,H,C⟩);clear H Z O;generalize cs.length=eu at *;go_wp2;go_ret;exact ef.out
def QA(B:Nat)(w2:World)(P:List PChange)(n:Nat)(rest:List MRow)(a i:Value)(wr:World):Prop:=∃(k:Nat) (ds:List Bl),i=.int .i64 (k:Int)/\k<=n/\ds.map Bl.I=P.take k/\(∀c∈ds,Aj c.ls)/\ds.length<=k/\Ay B wr (CG a ds++rest)/\Below B w2 wr
theorem QB(ad:Au w va az)(ae:Au w vb bs)(sa:A3 az)(a0:A3 bs)(a1:BZ w):Calls prog 18 #[aM #[va],aM #[vb]] w fun e w'=>D9 (diffS (az.map BAt.I) (bs.map BAt.I)) w e w':=by
 obtain⟨E,F,rfl⟩:=ad.1.ad;obtain⟨s,t,rfl⟩:=ae.1.ad;have b:Below w.heap.size w ((w.alloc (aJ #[aB E az.length F] 25)).alloc (aJ #[aB s bs.length t] 25)):=((aI w.heap.size w).alloc (aG _) _).alloc (by simp) _;have b0:((w.alloc (aJ #[aB E az.length F] 25)).alloc (aJ #[aB s bs.length t] 25)).heap.size=w.heap.size+2:=by simp
 have kk:=Ct (w:=w) (cs:=#[aB E az.length F]) (ds:=#[aB s bs.length t]) (T:=25) (U:=25);have af:=kk.1 0;have G:=kk.2 0;simp only[aD,aC]at af G;clear kk;have a2:=Ab (ad.V b);have a3:=Ab (ae.V b);have ST:=Ab (a1.V b);have a4:=Ab sa;have a5:=Ab a0;generalize a6:(w.alloc (aJ #[aB E az.length F] 25)).alloc (aJ #[aB s bs.length t] 25)=w2 at *;have b1:=Ab a6;have N:=F9 a2.out a4.out ST.out;have O:=Ab (show ∀W,Below w2.heap.size w2 W->Calls prog 19 #[aM #[aB s bs.length t]] W fun e w'=>e=aR (.bool (Bw (bs.map BAt.I)))/\Below W.heap.size W w' from fun W h=>F9 (a3.out.V h) a5.out (ST.out.V h));have P:=Ab (show Bw (az.map BAt.I)=true->Bw (bs.map BAt.I)=true->∀W,Below w2.heap.size w2 W->Calls prog 64 #[aB E az.length F,aB s bs.length t] W fun e w'=>Q9 (goneS (az.map BAt.I) (bs.map BAt.I)++(bs.map BAt.I).flatMap (CC (az.map BAt.I))) W e w' from fun h1 ag W h=>Ks (a2.out.V h) (a3.out.V h) a4.out a5.out (AS.1 h1) (AS.1 ag));obtain⟨i0,b2,b3,b4,b5⟩:=cF Gu;clear ad ae sa a0 a1 a6;obtain⟨d,ah⟩:∃d,az.map BAt.I=d:=⟨_,rfl⟩;obtain⟨j,ai⟩:∃j,bs.map BAt.I=j:=⟨_,rfl⟩;rw[ah]at N P;rw[ai]at O P;rw[ah,ai];have a7:=Ab (show ∀aj ak,Bw d=aj->Bw j=ak->diffS d j=if aj=true/\ak=true then goneS d j++j.flatMap (CC d) else [] from fun aj ak h1 ag=>by rw[<-h1,<-ag];rfl);generalize al:Bw d=a8 at N;generalize am:Bw j=a9 at O;have Q:=Ab (a7.out a8 a9 al am);have ba:=Ab al;have bb:=Ab am;generalize goneS d j++j.flatMap (CC d)=o at *;generalize diffS d j=R at *;clear ah ai a7 al am;generalize az.length=ct at *;generalize bs.length=cu at *;go_enter func18,ntmps18;go_upto_region 1 with fail
 rw[b1.out];go_wp2_with (go_at_call 19;refine N.mono ?_)
 first|rintro e an rfl p|rintro e an ⟨rfl,p⟩
 have b6:=(p.cell (aF _ _ G)).trans G;clear N;cases a8
 ·have H:=Ab (show D9 R w (aR (aB aH 0 0)) an from⟨_,[],rfl,by rw[Q.out];simp,by simp,by simp,Gv _ _,b.trans (p.mono b.size)⟩);go_wp2;go_ret;exact H.out
 ·have bc:=O.out an p;go_wp2_with (go_at_call 19;refine bc.mono ?_)
  first|rintro e a rfl ao|rintro e a ⟨rfl,ao⟩
  have q:=p.trans (ao.mono p.size);clear bc;cases a9
  ·have H:=Ab (show D9 R w (aR (aB aH 0 0)) a from⟨_,[],rfl,by rw[Q.out];simp,by simp,by simp,Gv _ _,b.trans (q.mono b.size)⟩);go_wp2;go_ret;exact H.out
  ·have b7:=Ab (show R=o from by rw[Q.out];simp);have bd:=P.out ba.out bb.out a q;have b8:=(q.cell (aF _ _ af)).trans af;have b9:=(q.cell (aF _ _ G)).trans G;clear Q ba bb P O b6;go_wp2_with (go_at_call 64;refine bd.mono ?_)
   first|rintro e S be cs rfl ap aq ca V I|rintro e S ⟨be,cs,rfl,ap,aq,ca,V,I⟩
   obtain⟨sa,sc,rfl,_⟩:=Al (show S.ownsRow _ 91 1 be cs.length (cs.map Bl.step) from Ay.head V);have cb:=q.size;have cv:=I.size;rw[b0]at cb;obtain⟨rest,ar⟩:∃rest,E0 (aB sa cs.length sc) cs=rest:=⟨_,rfl⟩;have bf:Ay a.heap.size S (CG (aB aH 0 0) []++rest):=by
    have cc:Ay a.heap.size a (CG (aB aH 0 0) []):=Gv _ _;rw[<-ar];exact(Ay.join cc V I (aG _)).perm bY
   have bg:=Ab (show QA a.heap.size a o cs.length rest (aB aH 0 0) (.int .i64 0) S from⟨0,[],rfl,by omega,by simp,by simp,by simp,bf,I⟩);have bh:=Ab ap;have bi:=Ab aq;have cd:=Ab ar;have ce:=Ab (b.trans (q.mono b.size));have bj:w.heap.size<=a.heap.size:=by omega
   clear bf V I ap aq ar b8 b9 bd p ao q b;generalize bk:cs.length=n at *;have au:=Ab bk;clear bk;go_wp2;go_loopw [5,22] (fun cf i wr=>QA a.heap.size a o n rest cf i wr) (fun _ i _=>n-(intOf i).toNat)
   case atStart=>exact bg.out
   case round =>
    clear bg;obtain⟨k,ds,rfl,cw,J,X,cx,v,Y⟩:=hrel;obtain⟨av,aw,rfl,_⟩:=Al (show wr.ownsRow a.heap.size 93 5 _ ds.length (ds.flatMap Bl.cells) from Ay.head v);have cg:=Y.size;by_cases cy:k<n
    ·obtain⟨D,x,T,Z,ax⟩:=AC cs k (by have:=au.out;omega);have aa:x∈cs:=by rw[Z];simp
     have ab:=Ay.right v;rw[<-cd.out]at ab;have K:=AF (show wr.ownsRow _ 91 1 (aB sa n sc) cs.length (cs.map Bl.step) from Ay.head ab);obtain⟨g,off,rfl,m⟩:=K.at (by have:=au.out;omega);have c0:=m k x.step (by rw[Z,aQ,bT,bR (by rw[aL];omega),aL,ax,cI];rfl);have bl:=Q8 (Aca ab Y aa (bi.out x aa).1) (bi.out x aa).2;have ch:=Ab (show o.take (k+1)=ds.map Bl.I++[x.I] from by
      rw[J,<-bh.out,Z];have e:(D++x::T).map Bl.I=D.map Bl.I++x.I::T.map Bl.I:=by simp
      have ci:(D.map Bl.I).length=k:=by rw[aL];exact ax
      rw[e,<-ci,By,Bk])
     have cz:(0:Int)<=(k:Int):=by omega
     have c1:(k:Int)<(n:Int):=by omega
     have bm:=Ab v;have cj:=Ab X;clear v X J K ab m Z ax aa;generalize x.step=xs at *;generalize x.I=ck at *;go_wp2_with (go_at_call 65;refine bl.mono ?_)
     first|rintro e r bn rfl L o7 M ac|rintro e r ⟨bn,rfl,L,o7,M,ac⟩
     obtain⟨y,z,A,B,bo,l⟩:=bn;have L:Bl.I ⟨y,z,A,B,bo,l⟩=ck:=L;have o7:A4 wr.heap.size r bo l:=o7;have M:Aj l:=M;obtain⟨va,C,rfl,_⟩:=Al (A4.row o7);have bp:=(aI r.heap.size r).alloc (aG _) (aJ #[.int .i64 y,aA z,aA A,aA B,aB va l.length C] 93);have bq:(r.alloc (aJ #[.int .i64 y,aA z,aA A,aA B,aB va l.length C] 93)).ownsRow a.heap.size 93 5 (aB av ds.length aw) ds.length (ds.flatMap Bl.cells):=(show r.ownsRow a.heap.size 93 5 (aB av ds.length aw) ds.length (ds.flatMap Bl.cells) from Ay.head (bm.out.V ac)).alloc _;have K:=Bn r #[.int .i64 y,aA z,aA A,aA B,aB va l.length C] 93 5 rfl;have br:∀u∈(#[.int .i64 y,aA z,aA A,aA B,aB va l.length C]:Array Value).toList,u.oneCell'=true:=by intro u bt;simp at bt;rcases bt with rfl|rfl|rfl|rfl|rfl <;> rfl
     have c2:=ac.size;have cl:=Ab o7;have S7:=Ab M;have cm:=Ab L;clear bl c0 o7 M L;generalize bu:l.length=bv at *;have c5:=Ab bu;clear bu;go_wp2_with (at_builtin;refine AD (by rfl) _ _ 34 (by rfl) a.heap.size 93 i0 _ 5 80 underlying34 b2 b3 b4 b5 rfl (by decide) _ ds.length _ (by rfl) bq _ 1 _ (by rfl) K br ?c3 ?c4 (by rw[aN];omega) ?_)
     case c3=>unfold cC;omega
     case c4=>omega
     intro cn co cp bw bx bz;have ay:=Nk (tl:=ds.flatMap Bl.rows) (rest:=rest) (new:=EF (aB va bv C) l) bm.out cg cl.out ac bp bw bx (by rw[aN];exact bz);have cq:=Ab (show QA a.heap.size a o n rest (aB cn (ds.length+1) co) (.int .i64 ((k:Int)+1)) cp from⟨k+1,ds++[⟨y,z,A,B,aB va bv C,l⟩],by rw[aT];rfl,by omega,by
      rw[ch.out,aQ,aV,<-cm.out],fun c m=>by
      rcases aZ.1 m with m|m
      ·exact cj.out c m
      ·rw[aU.1 m];exact S7.out,by simp;omega,by
      unfold CG;rw[bC,bC,bE,bH,bH];exact ay.1,Y.trans (ay.2.mono (aG _))⟩)
     clear bq K br bw bx bz ay bp;go_wp2;go_roundw;case rel=>exact cq.out
     case measure=>simp[intOf];omega
    ·obtain rfl:k=n:=by omega
     have cr:o.take k=o:=by rw[<-bh.out,<-au.out,<-aL (f:=Bl.I),bG]
     rw[cr]at J;have H:=Ab (show D9 R w (aR (aB av ds.length aw)) wr from⟨_,ds,rfl,by rw[b7.out,J],X,by omega,Ay.mono (Ay.left v) bj,ce.out.trans (Y.mono bj)⟩);clear v X J;generalize ds.length=c6 at *;go_wp2;go_ret;exact H.out
