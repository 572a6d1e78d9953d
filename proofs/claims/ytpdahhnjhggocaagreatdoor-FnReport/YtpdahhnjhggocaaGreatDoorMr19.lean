import Derived.Test.YtpdahhnjhggocaaGreatDoorMr17
import Derived.Shelf.Strings.Prefix
import Derived.Shelf.Strings.Count
import Derived.LaidEql
import Derived.Stop.Asserts
import Derived.Deep.WholeRow
open Go.Proofs.Tryz
open Go.Value renaming pointer->aA,slice->aE,string->aH,tuple->aZ,agg->bA,int->du
open Option renaming none->aB,some->aC,map_eq_some_iff->aS
open Go.Obj renaming cells->aD
open Go.Lib renaming byteCells->aF,cell_of_heap->aI,byteCells_length->aK,OthersKept->aR,BuilderAtF->bI,strCells->bM,frozen_of_heap->bN,ownsRowF_kind->bO,wpList_append_own_stringF->cF,run_unsafeSliceData_row->cH,run_unsafeString_row->cL,run_neq_ptr_same->cR,strCells_length->cT,run_from_unsafe->cU,run_to_unsafe->c8,run_noEscape->df,below_freeze->dg,IsBuilderF->dm,alloc_old->ds
open List renaming length_append->aG,flatMap_append->aT,map_cons->aU,length_cons->aV,length_map->aY,getElem?_cons_zero->bB,getElem?_toArray->bE,getElem?_cons_succ->bH,cons_append->bK,mem_map_of_mem->bL,take_append_drop->bP,length_singleton->bQ,take_succ_cons->bU,mem_singleton->bV,take_succ_eq_append_getElem->bX,mem_map->bY,map_nil->bZ,flatMap_cons->cA,append_assoc->cB,map_toArray->cD,length_nil->cE,take_add_one->cX,getElem?_map->cY,take_length->cZ,mem_flatMap->c6,getElem_mem->c7,nil_append->da,mem_filter->db,mem_append->dc,map_append->dd,append_nil->de,take_zero->dj
open Go.Ending renaming returned->aJ
open Go renaming run_callFunc_extern->aL,execOp->bF,maxLen->cI,info_parts->cM,method->cP,wpList_append_ownF->dk,setCell_eq_setRow->dp
open Nat renaming le_refl->aM,lt_or_ge->bC,le_trans->bD,mul_le_mul_right->bR,lt_of_lt_of_le->cW,zero_lt_succ->c9
open Go.RowKit.Below renaming refl->aN,drew->cS
open Array renaming getElem?_eq_none->aO
open Go.Result renaming andThen->aP
open Go.World renaming block_lt_of_cell?->aQ,cell?_of_block->cN,size_alloc->cV,frozen?->di,shape?->dl,cell?->dq,alloc->dr
open Go.Lib.OthersKept renaming refl->aW
open Go.Proofs.Tryz renaming prog->aX
open Go.Oper renaming upon_value->bG,wp->bW
open Go.Lib.BuilderAtF renaming put->bJ
open Go.Extern.AbiNoEscape renaming same->bS
open Go.Act renaming eval->bT
open List.Perm renaming cons->cC
open Go.Builtin renaming unsafeSliceData_->cG,unsafeString_->cK
open Go.ByteArray renaming toList_eq->cJ
open Go.Sem renaming run_bind->cO
open List.cons renaming injEq->cQ
open Bool renaming eq_iff_iff->dh
open Go.IntKind renaming u8->dn
open Go.World.ownsRow renaming lt->dt
namespace Go.Proofs.YtpdahhnjhggocaaGreatDoor
open Go.RowKit
set_option maxHeartbeats 16000000
set_option maxRecDepth 100000
abbrev Bld(B b:Nat)(bs:List Value)(w:World):Prop:=dm 102 5 B b bs w
abbrev Y7(B b:Nat)(bs:List Value)(w:World):Prop:=bI 102 5 B b (aA (aC ⟨b,0,aB⟩)) bs w
theorem Sj:liesAt prog aX.depth 102 (2/aX.cellsOf 102) 0 100 1=true:=by kernel_rfl
theorem Sk:(aX.info? 100).map (·.size)=aC 2:=by kernel_rfl
theorem Jo(B b:Nat)(bs:List Value)(w:World)(h:Bld B b bs w):Calls prog 163 #[aA (aC ⟨b,0,aB⟩)] w fun e w'=>e=aJ (aZ #[])/\Y7 B b bs w'/\Below B w w'/\aR 5 (aC b) w w':=by
 obtain⟨j,a,d⟩:=aS.1 Sk;rcases h with h|h
 ·have f:=h.cell0;have c:=h.shape;have l:=h.frozen0;have g:=Ab (h.used (aA (aC ⟨b,0,aB⟩)));have i:=h.1;clear h;go_enter func163,ntmps163;go_wp2;rw[c8 _ ⟨b,0,aB⟩ underlying98 underlying200 a (by rw[d];decide) c (c9 1)];simp only[aP];rw[bG];go_wp2;rw[aL func218 (by kernel_rfl) (by kernel_rfl) (by kernel_rfl) (e:=bS) (by kernel_rfl)];rw[df];simp only[aP];rw[bG];go_wp2;rw[cU _ ⟨b,0,aB⟩ underlying200 underlying98 a c Sj];simp only[aP];rw[bG];go_wp2;go_end0
  exact⟨rfl,g.out,(aN B w).setCell (p:=⟨b,0,aB⟩) i _,(aW _ _ w).setCell ⟨b,0,aB⟩ rfl _⟩
 ·have f:=h.cell0;have k:=Ab h;clear h;go_enter func163,ntmps163;go_wp2;rw[cR _ _ underlying98 a];go_wp2;go_end0
  exact⟨rfl,k.out,aN B _,aW _ _ _⟩
theorem Mi:(aX.info? 5).map (fun i=>(i.zero,i.size,i.bytes))=aC (aC (.int .u8 0),1,1):=by kernel_rfl
theorem WT:aX.cellsOf 5=1:=by kernel_rfl
theorem Sl(B b:Nat)(bs:List Value)(c:Int)(w:World)(h:Bld B b bs w)(H:bs.length+1<=140737488355328)(I:B<=w.heap.size):Calls prog 102 #[aA (aC ⟨b,0,aB⟩),.int .u8 c] w fun e w'=>e=aJ .nilIface/\Y7 B b (bs++[.int .u8 c]) w'/\Below B w w'/\aR 5 (aC b) w w':=by
 obtain⟨i0,x,y,z,A⟩:=cM Mi;have q:=Jo B b bs w h;clear h;go_enter func102,ntmps102;go_wp2_with (go_at_call 163;refine q.mono ?_)
 rintro e w1 ⟨rfl,h1,a,C⟩;clear q;obtain⟨r,v,d,m,D⟩:=h1;have c0:w1.cell? ⟨b,0,aB⟩=aC (aA (aC ⟨b,0,aB⟩)):=by rw[aI d];rfl
 have J:w1.cell? ⟨b,1,aB⟩=aC v:=by rw[aI d];rfl
 go_wp2_with (at_builtin;refine dk _ rfl _ _ 22 rfl B 5 i0 (.int .u8 0) 1 1 underlying22 x y z A rfl (by decide) _ _ _ rfl (m.alloc _) ⟨w1.heap.size,0,aB⟩ 1 1 [.int .u8 c] rfl rfl ?c1 ?c2 ?c3 ?c4 ?c5 ?_)
 case c1 =>
  intro j u f
  match j,f with
  | 0,f=>simp at f;subst f;simp[Addr.add]
 case c2=>intro u s;simp at s;subst s;rfl
 case c3=>unfold cI;omega
 case c4=>omega
 case c5=>have:=a.size;simp;omega
 intro v' w2 t n _;have E:b<w1.heap.size:=by
  rcases bC b w1.heap.size with o|o
  ·exact o
  ·simp[aO o]at d
 have i:w2.heap[b]?=aC (aD #[aA (aC ⟨b,0,aB⟩),v] 102 (0,0)):=by
  rw[n.block b (by simp;omega) (fun e=>D e.symm),ds w1 _ b E];exact d
 have K:w2.cell? ⟨b,0,aB⟩=aC (aA (aC ⟨b,0,aB⟩)):=by rw[aI i];rfl
 have L:w2.cell? ⟨b,1,aB⟩=aC v:=by rw[aI i];rfl
 have M:w2.frozen? ⟨b,1,aB⟩=false:=bN i 1;obtain⟨g,l,rfl⟩:∃g l,v'=aE (aC ⟨g,0,aB⟩) (bs.length+1) l:=by
  rcases t.2 with ⟨_,N⟩|⟨g,l,O,P,F,_⟩
  ·omega
  ·exact⟨g,l,F⟩
 go_wp2;go_ret;refine⟨rfl,?_,?_,((C.alloc _).grown n (bO (m.alloc _))).setCell ⟨b,1,aB⟩ rfl _⟩
 ·exact bJ (T:=102) (e:=5) r i (bs':=bs++[.int .u8 c]) (by simpa using t) (by decide)
 ·exact((a.alloc (by have:=a.size;omega) _).grown n (by have:=a.size;simp;omega) (fun k G=>(m.lt k G).1)).setCell (p:=⟨b,1,aB⟩) r _
theorem NH(B b:Nat)(bs:List Value)(s:ByteArray)(w:World)(h:Bld B b bs w)(D:bs.length+s.size<=140737488355328)(E:B<=w.heap.size):Calls prog 101 #[aA (aC ⟨b,0,aB⟩),aH s] w fun e w'=>e=aJ (aZ #[.int .i64 s.size,.nilIface])/\Y7 B b (bs++bM s) w'/\Below B w w'/\aR 5 (aC b) w w':=by
 obtain⟨i0,r,t,u,x⟩:=cM Mi;have n:=Jo B b bs w h;clear h;go_enter func101,ntmps101;go_wp2_with (go_at_call 163;refine n.mono ?_)
 rintro e w1 ⟨rfl,h1,d,y⟩;clear n;obtain⟨o,v,a,f,z⟩:=h1;have c0:w1.cell? ⟨b,0,aB⟩=aC (aA (aC ⟨b,0,aB⟩)):=by rw[aI a];rfl
 have F:w1.cell? ⟨b,1,aB⟩=aC v:=by rw[aI a];rfl
 go_wp2_with (at_builtin;refine cF _ rfl _ _ 22 9 rfl B 5 i0 underlying22 underlying9 r t u x _ _ _ rfl f s rfl ?c3 ?c4 ?c5 ?_)
 case c3=>unfold cI;omega
 case c4=>omega
 case c5=>have:=d.size;omega
 intro v' w2 q i _;have A:b<w1.heap.size:=by
  rcases bC b w1.heap.size with j|j
  ·exact j
  ·simp[aO j]at a
 have c:w2.heap[b]?=aC (aD #[aA (aC ⟨b,0,aB⟩),v] 102 (0,0)):=by
  rw[i.block b A (fun e=>z e.symm)];exact a
 have G:w2.cell? ⟨b,0,aB⟩=aC (aA (aC ⟨b,0,aB⟩)):=by rw[aI c];rfl
 have H:w2.cell? ⟨b,1,aB⟩=aC v:=by rw[aI c];rfl
 have I:w2.frozen? ⟨b,1,aB⟩=false:=bN c 1;obtain⟨ao,n',l,rfl⟩:∃ao n' l,v'=aE ao n' l:=by
  rcases q.2 with ⟨m,_⟩|⟨g,l,J,K,m,_⟩
  ·exact⟨_,_,_,m⟩
  ·exact⟨_,_,_,m⟩
 go_wp2;go_ret2
 refine⟨rfl,?_,?_,(y.grown i (bO f)).setCell ⟨b,1,aB⟩ rfl _⟩
 ·exact bJ (T:=102) (e:=5) o c (bs':=bs++bM s) (by simpa [cT] using q) (by decide)
 ·exact(d.grown i (by have:=d.size;omega) (fun k C=>(f.lt k C).1)).setCell (p:=⟨b,1,aB⟩) o _
theorem Sm(B b:Nat)(l:List UInt8)(w:World)(h:Bld B b (aF l) w)(k:l≠[]):Calls prog 71 #[aA (aC ⟨b,0,aB⟩)] w fun e w'=>e=aJ (aH ⟨l.toArray⟩)/\Bld B b (aF l) w'/\Below B w w'/\aR 5 (aC b) w w':=by
 obtain⟨p,o,q⟩:∃p,(p=aA aB\/p=aA (aC ⟨b,0,aB⟩))/\bI 102 5 B b p (aF l) w:=by
  rcases h with h|h
  ·exact⟨_,.inl rfl,h⟩
  ·exact⟨_,.inr rfl,h⟩
 obtain⟨s,v,m,f,t⟩:=q;have u:l.length≠0:=by simpa using k
 rw[aK]at f;obtain⟨g,a,c,d,rfl,y,n,I,J,z,K,L⟩:∃g a c d,v=aE (aC ⟨g,0,aB⟩) l.length a/\B<=g/\w.heap[g]?=aC (aD c 5 d)/\d.2<=l.length*1/\l.length<=a/\a<=cI/\c.size=a*1/\c.toList.take (l.length*1)=aF l:=by
  rcases f.2 with ⟨_,A⟩|⟨g,a,c,d,C,r⟩
  ·exact absurd A u
  ·exact⟨g,a,c,d,C,r⟩
 have D:w.drew.cell? ⟨b,1,aB⟩=aC (aE (aC ⟨g,0,aB⟩) l.length a):=by
  have:w.drew.heap[b]?=aC (aD #[p,aE (aC ⟨g,0,aB⟩) l.length a] 102 (0,0)):=m;rw[aI this];rfl
 have M:(cG #[22] 196 #[aE (aC ⟨g,0,aB⟩) l.length a]).run prog w.drew=.ok (aA (aC ⟨g,0,aB⟩)) w.drew :=
  cH _ _ _ _ _ _ (by omega)
 have N:(cK #[196,3] 9 #[aA (aC ⟨g,0,aB⟩),.int .i64 l.length]).run prog w.drew=.ok (aH ⟨l.toArray⟩) (w.drew.freeze ⟨g,0,aB⟩ l.length):=by
  refine cL w.drew 196 3 9 5 underlying196 WT g c.size (by have E:w.drew.heap[g]?=aC (aD c 5 d):=n;simp[dl,E]) l k (by omega) (by unfold cI at z;omega) ?_;intro j x F;have:=f.cells (g:=g) rfl j (.int .u8 x.toNat) (by simp[aF,F]);exact this
 have G:Bld B b (aF l) (w.drew.freeze ⟨g,0,aB⟩ l.length):=by
  have H:bI 102 5 B b p (aF l) w.drew:=⟨s,_,m,by rw[aK];exact f,t⟩;have i:=H.froze (g:=g) (cap:=a) (by rw[aK];exact D);rw[aK]at i;rcases o with rfl|rfl
  ·exact .inl i
  ·exact .inr i
 have mixed:aX.follows .mixedOrders=true:=by kernel_rfl
 go_enter func71,ntmps71;go_wp2;go_region_o
 all_goals (go_wp2;go_ret;exact⟨rfl,G,dg (cS (aN B w)) (p:=⟨g,0,aB⟩) y _,((aW _ _ w).drew).freeze ⟨g,0,aB⟩ _ ⟨c,d,n⟩⟩)
variable {e:TypeId}{w u w0:World}{B:Nat}
theorem Gn{b:Option Nat}(h:Below w.heap.size w u):aR e b w u:=by
 intro k o a _ _;have c:k<w.heap.size:=(Array.getElem?_eq_some_iff.1 a).1;rw[h.block k c];exact a
theorem Fc(s:ByteArray):bM s=aF s.data.toList:=by
 simp[bM,aF]
theorem Dy(l m:List UInt8):aF (l++m)=aF l++aF m:=by
 simp[aF]
def VQ(B b:Nat)(l:List UInt8)(w:World):Prop:=Bld B b (aF l) w
theorem VQ.gr{b:Nat}{l:List UInt8}(h:VQ B b l w)(a:Below w.heap.size w u):VQ B b l u:=VP h a
def Dz(B b:Nat)(l:List UInt8)(w w':World):Prop:=VQ B b l w'/\Below B w w'/\aR 5 (aC b) w w'
theorem VQ.lt{b:Nat}{l:List UInt8}(h:VQ B b l w):b<w.heap.size:=by
 rcases h with h|h <;> exact h.lt
theorem Ss{b:Nat}{l:List UInt8}(c:UInt8)(h:VQ B b l w)(a:l.length+1<=140737488355328)(d:B<=w.heap.size):Calls prog 102 #[aA (aC ⟨b,0,aB⟩),.int .u8 (c.toNat:Int)] w fun e w'=>e=aJ .nilIface/\Dz B b (l++[c]) w w':=by
 refine(Sl B b (aF l) c.toNat w h (by rw[aK];exact a) d).mono ?_;rintro e w' ⟨rfl,h1,f,g⟩;refine⟨rfl,.inr ?_,f,g⟩;rw[Dy];exact h1
theorem D3{b:Nat}{l:List UInt8}(s:ByteArray)(h:VQ B b l w)(a:l.length+s.data.toList.length<=140737488355328)(c:B<=w.heap.size):Calls prog 101 #[aA (aC ⟨b,0,aB⟩),aH s] w fun e w'=>e=aJ (aZ #[.int .i64 s.size,.nilIface])/\Dz B b (l++s.data.toList) w w':=by
 refine(NH B b (aF l) s w h (by rw[aK];simpa using a) c).mono ?_;rintro e w' ⟨rfl,h1,d,f⟩;refine⟨rfl,.inr ?_,d,f⟩;rw[Dy,<-Fc];exact h1
def lineTo(key:ByteArray)(ws:List (List UInt8))(j:Nat):List UInt8:=key.data.toList++(ws.take j).flatMap (fun w=>32::CZ w)
theorem Hh(key:ByteArray)(ws:List (List UInt8)):lineTo key ws 0=key.data.toList:=by simp[lineTo]
theorem K6(key:ByteArray)(ws:List (List UInt8))(j:Nat)(a:j<ws.length):lineTo key ws (j+1)=lineTo key ws j++[32]++CZ ws[j]:=by
 unfold lineTo;rw[bX a,aT];simp
theorem Mz(x:LAt):lineTo x.key x.ws x.ws.length=lineL x.I:=by
 simp[lineTo,lineL,LAt.I]
theorem O1(key:ByteArray)(ws:List (List UInt8))(j:Nat):(lineTo key ws j).length<=(lineTo key ws ws.length).length:=by
 unfold lineTo
 conv=>rhs;rw[cZ,<-bP j ws,aT]
 simp
theorem Dz.trans{b:Nat}{l m:List UInt8}{v:World}(h:Dz B b l w u)(k:Dz B b m u v):Dz B b m w v:=⟨k.1,h.2.1.trans k.2.1,h.2.2.trans k.2.2⟩
theorem Dz.gr{b:Nat}{m:List UInt8}{v:World}(a:B<=w.heap.size)(h:Below w.heap.size w u)(k:Dz B b m u v):Dz B b m w v:=⟨k.1,(h.mono a).trans k.2.1,(Gn h).trans k.2.2⟩
theorem Iu{b:Nat}{l:List UInt8}{x:LAt}(F:B=w0.heap.size)(o:BL w0 x)(G:Below B w0 w)(h:VQ B b l w)(r:l.length+(lineL x.I).length<=140737488355328)(ai:x.ws.length<=1048576)(H:∀y∈x.ws,y.length<=1048576):Calls prog 137 #[aA (aC ⟨b,0,aB⟩),bA #[aH x.key,x.v]] w fun e w'=>e=aJ (aZ #[])/\Dz B b (l++lineL x.I) w w':=by
 obtain⟨a,d,s⟩:=o.ad;rw[<-Mz]at r⊢;have I:Am w0 (aE a x.ws.length d) x.ws.length 1 (strs x.ws):=s▸o;rw[s];clear o s;obtain⟨key,v,ws⟩:=x;simp only at *;have J:=Ab (fun j=>bD (Nat.add_le_add_left (O1 key ws j) l.length) r);have Y:l.length+key.data.toList.length<=140737488355328:=by have:=J.out 0;rw[Hh]at this;exact this
 have Z:=Ab (Hh key ws);have aa:=Ab H;generalize L:ws.length=n at *;have ab:=Ab L;have ac:=Ab I;clear L I r H;have t:B<=w.heap.size:=by rw[F];exact G.size
 have aj:=h.lt;have u:aC w.heap.size≠aC b:=by intro e;cases e;omega
 have z:∀c M,(Obj.cells #[aH key,aE a n d] 115)≠aD c 5 M:=by intro c M e;cases e
 have N:(w.alloc (aD #[aH key,aE a n d] 115)).heap[w.heap.size]?=aC (aD #[aH key,aE a n d] 115):=by unfold dr;simp
 have c0:=AH (w:=w) (cs:=#[aH key,aE a n d]) (T:=115) 0;have A:Below w.heap.size w (w.alloc (aD #[aH key,aE a n d] 115)):=(aN w.heap.size w).alloc (aM _) (aD #[aH key,aE a n d] 115);go_enter func137,ntmps137;go_upto_region 1 with fail
 generalize ad:w.alloc (aD #[aH key,aE a n d] 115)=w1 at *;clear ad;have k0:=fun p:Gr w1=>Aq c0 p
 refine Fb 5 (by kernel_rfl) rfl rfl (by kernel_rfl) ?_;simp only[bU,dj];iterate 5 quiet_step (fail)
 refine wpQuiet_nil ?_;intro p K k;go_simp;have m:Below w.heap.size w p.u:=A.trans (p.h.mono A.size);have O:B<=p.u.heap.size:=bD t m.size;refine(D3 key (h.gr m) Y O).mono ?_;rintro e w2 ⟨rfl,W2⟩;refine k _ _ ?_;have P:=Gn (e:=5) (b:=aC b) p.h _ _ N u z;have Q:=W2.2.2 _ _ P u z;have ak:w2.cell? ⟨w.heap.size,1,aB⟩=aC (aE a n d):=by rw[aI Q];rfl
 have W:=Ab (Dz.gr t m W2);clear k K P Q W2 m O k0 c0 N z u A;go_wp2;go_loopw [15] (fun i wr=>∃j:Nat,j<=n/\i=.int .i64 (j:Int)/\Dz B b (l++lineTo key ws j) w wr) (fun i _=>n-(intOf i).toNat)
 case atStart=>exact⟨0,by omega,rfl,by rw[Z.out];exact W.out⟩
 case round =>
  obtain⟨j,al,rfl,f⟩:=hrel;by_cases ae:j<n
  ·have C:j<ws.length:=by rw[ab.out];exact ae
   obtain⟨g,off,rfl,D⟩:=ac.out.word j C;have am:wr.cell? ⟨g,off+j,aB⟩=aC (aH ⟨ws[j].toArray⟩):=((G.trans f.2.1).cell (by rw[F];exact aQ w0 _ D)).trans D;have af:=aa.out ws[j] (c7 C);have R:=Ab (K6 key ws j C);have S:=J.out (j+1);rw[R.out]at S;generalize an:ws[j]=y at *;generalize ag:lineTo key ws (j+1)=ao at *;generalize lineTo key ws j=ap at *;simp only[aG,bQ]at S;have U:B<=wr.heap.size:=bD t f.2.1.size;have V:=Ss (32:UInt8) f.1 (by rw[aG];omega) U;have aq:(j:Int)<(n:Int):=by omega
   have i0:(0:Int)<=(j:Int):=by omega
   clear D W;go_wp2_with (go_at_call 102;refine V.mono ?_)
   rintro e w3 ⟨rfl,W3⟩;clear V;go_upto_region 6 with fail
   have ah:=fun q:Gr w3=>Pr ⟨y.toArray⟩ q.u (by show y.toArray.size<=1048576;simpa using af)
   refine Fb 5 (by kernel_rfl) rfl rfl (by kernel_rfl) ?_;simp only[bU,dj];iterate 4 quiet_step (fail)
   quiet_step ((go_at_call 181;refine CD (ah _)))
   refine wpQuiet_nil ?_;intro q K k;go_simp;have X:B<=w3.heap.size:=bD U W3.2.1.size;refine(D3 _ (W3.1.gr q.h) (by simp only[aG,bQ];omega) (bD X q.h.size)).mono ?_;rintro e ar ⟨rfl,W4⟩;refine k _ _ ?_;clear k K;have E:=Ab (f.trans (W3.trans (Dz.gr X q.h W4)));go_wp2;go_roundw;case rel=>exact⟨j+1,by omega,by go_num,by rw[ag,R.out];simpa using E.out⟩
   case measure=>simp[intOf];omega
  ·obtain rfl:j=n:=by omega
   have E:=Ab f;clear f;go_wp2;go_end0
   exact⟨rfl,E.out⟩
def Dq(b:PBlock)(j:Nat):List UInt8:=Jm b++10::(b.ac.take j).flatMap (fun a=>32::32::lineL a++[10])
theorem Ps(b:PBlock):Dq b 0=Jm b++[10]:=by simp[Dq]
theorem Pt(b:PBlock)(j:Nat)(a:PLine)(c:b.ac[j]?=aC a):Dq b (j+1)=Dq b j++[32,32]++lineL a++[10]:=by
 unfold Dq;rw[cX,c];simp
theorem K7(b:PBlock):Dq b b.ac.length++[101,110,100,10]=F5 b:=by
 simp[Dq,F5]
theorem U3(b:PBlock)(j:Nat):(Dq b j).length+4<=(F5 b).length:=by
 rw[<-K7];unfold Dq
 conv=>rhs;rw[cZ,<-bP j b.ac,aT]
 simp;omega
theorem Js{b:Nat}{l:List UInt8}(s:ByteArray)(h:VQ B b l w)(a:l.length+s.data.toList.length<=140737488355328)(c:B<=w.heap.size):∃v t,Hid (t=l++s.data.toList)/\Calls prog 101 #[aA (aC ⟨b,0,aB⟩),aH s] w fun e w'=>e=aJ v/\Dz B b t w w':=⟨_,_,rfl,D3 s h a c⟩
theorem U4(l:List UInt8):[10].isSuffixOf l=decide (l.getLast?=aC 10):=by
 rw[dh,List.isSuffixOf_iff_suffix,decide_eq_true_iff];constructor
 ·rintro⟨t,rfl⟩;simp
 ·intro h;obtain⟨t,rfl⟩:=List.getLast?_eq_some_iff.1 h;exact⟨t,rfl⟩
def K8(l:List UInt8):Nat:=if l≠[]/\l.getLast?≠aC 10 then 1 else 0
theorem FB:∀(l acc:List UInt8),(10:UInt8) ∉ acc->(AR acc l).length=l.count 10+K8 (acc++l)
 | [],acc,b=>by
  unfold AR K8;rw[de];by_cases h:acc=[]
  ·simp[h]
  ·have d:acc.getLast?≠aC 10:=fun e=>b (List.mem_of_getLast? e)
   rw[if_neg h,if_pos ⟨h,d⟩];simp
 | c::l,acc,b=>by
  unfold AR;by_cases a:c=10
  ·subst a;rw[if_pos rfl,aV,FB l [] (by simp),List.count_cons_self,da];have:K8 l=K8 (acc++10::l):=by
    unfold K8;cases l with
    | nil=>simp
    | cons x l=>simp[List.getLast?_append,List.getLast?_cons_cons]
   omega
  ·rw[if_neg a,FB l (acc++[c]) (by simp[b];exact fun e=>a e.symm),List.count_cons_of_ne a,cB];rfl
theorem NO(l:List UInt8):(textLines l).length=l.count 10+K8 l:=by
 unfold textLines;rw[FB l [] (by simp)];rfl
open Go.Shelf in
shelf_lay Lays.n138 Nm 138 at Tryz as Tryz.strCount
open Go.Shelf in
shelf_lay Lays.n100 Nm 100 at Tryz as Tryz.strSuffix
theorem St(s:ByteArray)(w:World):Calls prog 138 #[aH s,aH ⟨#[10]⟩] w fun e w'=>e=aJ (.int .i64 (s.data.toList.count 10:Nat))/\w'=w:=Any.strings_Count_one Tryz.strCount s 10 w
theorem Pu(s:ByteArray)(w:World)(a:s.size<=9223372036854775807):Calls prog 139 #[aH s,aH ⟨#[10]⟩] w fun e w'=>e=aJ (.bool (decide (s.data.toList.getLast?=aC 10)))/\w'=w:=by
 have h:=Any.strings_HasSuffix Tryz.strSuffix s ⟨#[10]⟩ w a;rw[<-U4];exact h
theorem U5(s:ByteArray)(o:Nat)(a:K8 s.data.toList=o):(decide ((20000:Int)<(s.size:Int)) || decide ((400:Int)<((s.data.toList.count 10+o:Nat):Int)))=decide (Cm s.data.toList):=by
 have e:s.data.toList.length=s.size:=by simp
 rw[dh,Bool.or_eq_true,decide_eq_true_iff,decide_eq_true_iff,decide_eq_true_iff];unfold Cm;rw[NO,a,e];omega
theorem Su(s:ByteArray)(w:World)(u:s.size<=4611686018427387904):Calls prog 70 #[aH s] w fun e w'=>e=aJ (.bool (decide (Cm s.data.toList)))/\w'=w:=by
 have v:s.data.toList.count 10<=s.size:=by have:=List.count_le_length (a:=(10:UInt8)) (l:=s.data.toList);simpa using this
 have d:=fun W=>St s W
 have f:=fun W=>Pu s W (by omega)
 have i:=Ab (U5 s);generalize decide (Cm s.data.toList)=r at *;generalize s.data.toList.count 10=n at *;have x:(n:Int)<=4611686018427387904:=by omega
 by_cases c:s.toList=[]
 ·have h1:(s.toList==[])=true:=by rw[c];rfl
  have hd:s.data.toList=[]:=by rw[<-cJ];exact c
  have t:s.size=0:=by
   have:s.data.toList.length=s.size:=by simp
   rw[hd]at this;simpa using this.symm
  have m:=i.out 0 (by rw[hd];rfl);rw[Nat.add_zero]at m;have b:=Ab m;clear i m c hd f;go_enter func70,ntmps70;go_wp2_with (go_at_call 138;refine(d _).mono ?_;rintro e w ⟨rfl,rfl⟩)
  go_ret;have:=b.out;rw[t]at this;refine⟨?_,rfl⟩;rw[<-this];simp
 ·have h1:(s.toList==[])=false:=by simpa using c
  have hd:s.data.toList≠[]:=by rw[<-cJ];exact c
  clear c;have q:∀(L:Bool) (o:Nat),decide (s.data.toList.getLast?=aC 10)=L->(if L then 0 else 1)=o->(decide ((20000:Int)<(s.size:Int)) || decide ((400:Int)<((n+o:Nat):Int)))=r:=by
   rintro L o j rfl;refine i.out _ ?_;unfold K8;cases L with
   | true=>rw[decide_eq_true_iff]at j;rw[if_neg (fun h=>h.2 j)];rfl
   | false=>rw[decide_eq_false_iff_not]at j;rw[if_pos ⟨hd,j⟩];rfl
  generalize decide (s.data.toList.getLast?=aC 10)=L at *;have k:=Ab (fun o h=>q L o rfl h);clear q i hd;cases L with
  | true =>
   have b:=Ab (k.out 0 rfl);clear k;by_cases g:(20000:Int)<(s.size:Int)
   ·go_enter func70,ntmps70;go_wp2_with (first|(go_at_call 138;refine(d _).mono ?_;rintro e w ⟨rfl,rfl⟩)|(go_at_call 139;refine(f _).mono ?_;rintro e w ⟨rfl,rfl⟩))
    go_ret;refine⟨?_,rfl⟩;rw[<-b.out];simp[g]
   ·have p:decide ((20000:Int)<(s.size:Int))=false:=decide_eq_false g;go_enter func70,ntmps70;go_wp2_with (first|(go_at_call 138;refine(d _).mono ?_;rintro e w ⟨rfl,rfl⟩)|(go_at_call 139;refine(f _).mono ?_;rintro e w ⟨rfl,rfl⟩))
    go_ret;refine⟨?_,rfl⟩;rw[<-b.out,p];simp
  | false =>
   have b:=Ab (k.out 1 rfl);clear k;have y:IntKind.i64.wrap ((n:Int)+1)=(n:Int)+1:=by rw[IntKind.wrap_i64];omega
   by_cases g:(20000:Int)<(s.size:Int)
   ·go_enter func70,ntmps70;go_wp2_with (first|(go_at_call 138;refine(d _).mono ?_;rintro e w ⟨rfl,rfl⟩)|(go_at_call 139;refine(f _).mono ?_;rintro e w ⟨rfl,rfl⟩))
    go_ret;refine⟨?_,rfl⟩;rw[<-b.out];simp[g]
   ·have p:decide ((20000:Int)<(s.size:Int))=false:=decide_eq_false g;go_enter func70,ntmps70;go_wp2_with (first|(go_at_call 138;refine(d _).mono ?_;rintro e w ⟨rfl,rfl⟩)|(go_at_call 139;refine(f _).mono ?_;rintro e w ⟨rfl,rfl⟩))
    go_ret;refine⟨?_,rfl⟩;rw[<-b.out,p];simp
variable {kind:ByteArray}
theorem Hy{α:Type}(f:α->List UInt8)(c:Nat):∀(l:List α),(∀x∈l,(f x).length<=c)->(l.flatMap f).length<=l.length*c
 | [],_=>by simp
 | a::l,h=>by
  have h1:=h a (by simp);have d:=Hy f c l (fun x b=>h x (by simp[b]));rw[cA,aG,aV,Nat.succ_mul];omega
theorem YJ(l:List UInt8):(CZ l).length<=3*l.length+2:=by
 unfold CZ;split
 ·omega
 ·have:=Hy qb 3 l (fun c _=>Yh c);simp only[GW,aG,aV,cE];omega
theorem Sv{a:PLine}(h:BQ (rulesOf kind) a.key a.ws=true):(lineL a).length<=2100:=by
 obtain⟨_,e,_,b,c⟩:=JX h;unfold lineL;have:=Hy (fun w=>32::CZ w) 603 a.ws (fun w d=>by have:=YJ w;have:=c w d;rw[aV];omega);rw[aG];have f:a.ws.length*603<=3*603:=bR _ b;omega
theorem Xc{b:PBlock}(h:Pi b)(c:b.ac.length<=1048576):(F5 b).length<=2300000000:=by
 have h1:=(FO h.1).2;have e:=(Eh h.2.1).2;have f:=Hy (fun a=>32::32::lineL a++[10]) 2103 b.ac (fun a d=>by have:=Sv (h.2.2 a d);simp;omega);have g:b.ac.length*2103<=1048576*2103:=bR _ c;unfold F5 Jm;simp only[aG,aV,cE];omega
theorem Xd{bs:List PBlock}(h:AA bs)(c:∀b∈bs,b.ac.length<=1048576):(sheetL bs).length<=140737488355328:=by
 have d:=Hy F5 2300000000 bs (fun b a=>Xc ⟨(h.2.1 b a).1,(h.2.1 b a).2.1,(h.2.1 b a).2.2.1⟩ (c b a));have e:bs.length*2300000000<=60*2300000000:=bR _ h.1;unfold sheetL;omega
theorem Pv(bs:List PBlock)(j:Nat)(b:PBlock)(a:bs[j]?=aC b):sheetL (bs.take (j+1))=sheetL (bs.take j)++F5 b:=by
 unfold sheetL;rw[cX,a];simp
theorem U6(bs:List PBlock)(j:Nat):(sheetL (bs.take j)).length<=(sheetL bs).length:=by
 unfold sheetL
 conv=>rhs;rw[<-bP j bs,aT]
 simp
variable {A:List PBlock}
section
open Go.Lib (decDigits)
def Fe(a:Int):List UInt8:=if a=1 then [45] else if a=2 then [43] else [126]
def GN:List PLine->List UInt8
 | []=>[]
 | a::ls=>58::32::lineL a++ls.flatMap (fun b=>44::32::lineL b)
def frontC(c:PChange):List UInt8:=Fe c.what++32::c.aa.data.toList++32::c.name.data.toList
def noC(c:PChange):List UInt8:=if c.what=4 then [58,32,110,111,32]++c.key.data.toList else []
def tellC(c:PChange):List UInt8:=frontC c++noC c++GN c.ac
theorem Hz(ls:List PLine)(k:Nat)(a:PLine)(h:ls[k]?=aC a):GN (ls.take (k+1))=GN (ls.take k)++(if k=0 then [58,32] else [44,32])++lineL a:=by
 obtain⟨c,rfl⟩:=List.getElem?_eq_some_iff.1 h;rw[bX c];cases k with
 | zero=>simp[GN]
 | succ k =>
  cases ls with
  | nil=>simp at c
  | cons b ls =>
   have d:k<ls.length:=by simpa using c
   rw[bU,bK,if_neg (by omega)];show GN (b::(ls.take k++[ls[k]]))=_
   rw[show (b::ls)[k+1]=ls[k] from rfl];show 58::32::lineL b++(ls.take k++[ls[k]]).flatMap (fun b=>44::32::lineL b)=58::32::lineL b++(ls.take k).flatMap (fun b=>44::32::lineL b)++[44,32]++lineL ls[k]
   rw[aT,List.flatMap_singleton];simp only[cB,bK,da]
theorem Pw{ls:List PLine}(h:∀a∈ls,(lineL a).length<=2100):(GN ls).length<=2102*ls.length:=by
 cases ls with
 | nil=>simp[GN]
 | cons a ls =>
  have h1:=h a (by simp);have d:=Hy (fun b:PLine=>44::32::lineL b) 2102 ls (fun b c=>by have:=h b (by simp[c]);simp;omega);simp only[GN,bK,aV,aG];omega
def Xe(c:PChange):Prop:=(1<=c.what/\c.what<=4)/\c.aa.data.toList.length<=200/\c.name.data.toList.length<=200/\c.key.data.toList.length<=200/\c.ac.length<=120/\∀a∈c.ac,(lineL a).length<=2100
theorem Sw{b:PBlock}(h:AG (rulesOf b.aa) b.ac):b.ac.length<=120/\∀a∈b.ac,(lineL a).length<=2100:=by
 have h1:=h.few;have d:=(Bm b.aa).1;exact⟨by omega,fun a c=>Sv (h.1 a c)⟩
theorem M7{B:List PBlock}{c:PChange}(h:c∈diffS A B):Xe c:=by
 unfold diffS at h;split at h
 ·rename_i f;have b:=AS.1 f.1;have i:=AS.1 f.2;rcases dc.1 h with h|h
  ·obtain⟨x,e,rfl⟩:=bY.1 h;have h1:=b.2.1 x (db.1 e).1;exact⟨⟨show (1:Int)<=1 by decide,show (1:Int)<=4 by decide⟩,(FO h1.1).2,(Eh h1.2.1).2,by simp[DT],by simp[DT],fun a b=>by simp[DT]at b⟩
  ·obtain⟨y,j,h⟩:=c6.1 h;have h1:=i.2.1 y j;have d:=Sw h1.2.2;unfold CC at h;split at h
   ·rw[bV.1 h];exact⟨⟨show (1:Int)<=2 by decide,show (2:Int)<=4 by decide⟩,(FO h1.1).2,(Eh h1.2.1).2,by simp[Mh],d.1,d.2⟩
   ·rename_i x e;have g:=b.2.1 x (List.mem_of_find?_eq_some e);unfold Ip at h;obtain⟨p,k,h⟩:=c6.1 h;unfold Dx at h;split at h
    ·cases h
    ·rw[bV.1 h];have l:=(Y1 x.aa p k).2.1;refine⟨by simp only;split <;> exact⟨by decide,by decide⟩,(FO g.1).2,(Eh g.2.1).2,l,bD (List.length_filter_le _ _) d.1,fun a b=>d.2 a (db.1 b).1⟩
 ·cases h
theorem O3{c:PChange}(h:Xe c):(frontC c).length<=403/\(noC c).length<=205:=by
 obtain⟨_,h1,b,d,_⟩:=h;have a:(Fe c.what).length=1:=by
  unfold Fe;split
  ·rfl
  ·split <;> rfl
 refine⟨?_,?_⟩
 ·unfold frontC;simp only[aG,aV,a];omega
 ·unfold noC;split
  ·simp only[aG,aV,cE];omega
  ·simp
theorem Sx{c:PChange}(h:Xe c):(tellC c).length<=260000:=by
 have h1:=O3 h;have a:=Pw h.2.2.2.2.2;have b:=h.2.2.2.2.1;unfold tellC;rw[aG,aG];omega
theorem YL(c:PChange):tellC c≠[]:=by
 unfold tellC frontC;simp
def U8:List (List UInt8):=[[],[97,32,119,111,114,100,32,116,104,97,116,32,105,115,32,110,111,110,101],[97,32,108,105,110,101,32,111,117,116,115,105,100,101,32,111,102,32,98,108,111,99,107,115],[110,111,32,115,117,99,104,32,107,105,110,100],[110,111,32,115,117,99,104,32,110,97,109,101],[110,111,32,115,117,99,104,32,107,101,121],[115,97,105,100,32,116,119,105,99,101],[110,111,116,32,119,104,97,116,32,116,104,101,32,107,101,121,32,116,97,107,101,115],[97,32,98,108,111,99,107,32,116,104,97,116,32,105,115,32,110,111,116,32,101,110,100,101,100],[97,32,98,108,111,99,107,32,97,103,97,105,110],[116,111,111,32,109,97,110,121],[116,111,111,32,108,111,110,103]]
def Gp(a:Int):List UInt8:=U8.getD a.toNat []
def faultL(name:List UInt8)(b:Nat)(a:Int):List UInt8:=name++(if a=11 then [] else 58::decDigits b)++[58,32]++Gp a
def Abf:List UInt8:=[111,108,100]
def Abg:List UInt8:=[110,101,119]
def YM:List UInt8:=[116,104,101,32,115,97,109,101]
noncomputable def reportLs(a b:List UInt8):List (List UInt8):=match AU a with
 | .bad n c=>[faultL Abf n c]
 | .good x=>match AU b with
  | .bad n c=>[faultL Abg n c]
  | .good y=>match diffS (fillS (AO x)) (fillS (AO y)) with
   | []=>[YM]
   | D=>D.map tellC
noncomputable def reportS(a b:List UInt8):List UInt8:=(reportLs a b).flatMap (fun l=>l++[10])
end
theorem Ac9{t:ByteArray}{l:List UInt8}(h:t.data.toList=l):t=⟨l.toArray⟩:=by
 subst h;cases t;simp
theorem IK{x:LAt}(h:BL w x)(k:(lineL x.I).length<=140737488355328)(S:x.ws.length<=1048576)(z:∀y∈x.ws,y.length<=1048576):Calls prog 88 #[bA #[aH x.key,x.v]] w fun e w'=>e=aJ (aH ⟨(lineL x.I).toArray⟩)/\Below w.heap.size w w':=by
 obtain⟨a,b,l⟩:=h.ad;rw[<-Mz]at k⊢;have A:Am w (aE a x.ws.length b) x.ws.length 1 (strs x.ws):=l▸h;rw[l];clear h l;obtain⟨key,v,ws⟩:=x;simp only at *;have F:=Ab (fun j=>bD (O1 key ws j) k);have G:=Ab (Hh key ws);have H:=Ab z;generalize B:ws.length=n at *;have I:=Ab B;have b0:Below w.heap.size w (w.alloc (aD #[aH key,aE a n b] 115)):=(aN w.heap.size w).alloc (aM _) (aD #[aH key,aE a n b] 115);have J:=Ab (A.V b0);clear B A k z;have c0:=AH (w:=w) (cs:=#[aH key,aE a n b]) (T:=115) 0;have m:=AH (w:=w) (cs:=#[aH key,aE a n b]) (T:=115) 1;simp only[bE,bB,bH]at c0 m;go_enter func88,ntmps88;go_wp2;generalize K:w.alloc (aD #[aH key,aE a n b] 115)=w1 at *;clear K;go_loopw [3,4] (fun s i wr=>∃j:Nat,∃t:ByteArray,j<=n/\i=.int .i64 (j:Int)/\s=aH t/\t.data.toList=lineTo key ws j/\Below w1.heap.size w1 wr) (fun _ i _=>n-(intOf i).toNat)
 case atStart=>exact⟨0,key,by omega,rfl,rfl,G.out.symm,aN _ _⟩
 case round =>
  obtain⟨j,t,U,rfl,rfl,d,c⟩:=hrel;have V:=(c.cell (aQ w1 _ m)).trans m;by_cases L:j<n
  ·have o:j<ws.length:=by rw[I.out];exact L
   obtain⟨g,off,rfl,p⟩:=J.out.word j o;have W:wr.cell? ⟨g,off+j,aB⟩=aC (aH ⟨ws[j].toArray⟩):=(c.cell (aQ w1 _ p)).trans p;have M:=H.out ws[j] (c7 o);have C:=Ab (K6 key ws j o);have f:=F.out (j+1);rw[C.out,<-d]at f;generalize X:ws[j]=y at *;generalize N:lineTo key ws (j+1)=O at *;generalize lineTo key ws j=Y at *;have D:=Jt ⟨y.toArray⟩ wr (by show y.toArray.size<=1048576;simpa using M);obtain⟨u,q⟩:∃u:ByteArray,u=⟨(CZ y).toArray⟩:=⟨_,rfl⟩;have E:u.data.toList=CZ y:=by rw[q]
   simp only[<-q]at D;have P:t.data.toList.length=t.size:=by simp
   have Q:u.data.toList.length=u.size:=by simp
   have Z:t.size+1+u.size<=140737488355328:=by
    rw[<-E]at f;simp only[aG,bQ]at f;omega
   have aa:¬ 9223372036854775807<t.size+1:=by omega
   have ab:¬ 9223372036854775807<t.size+1+u.size:=by omega
   have ac:(j:Int)<(n:Int):=by omega
   have i0:(0:Int)<=(j:Int):=by omega
   have r:=Ab (show (t++⟨#[32]⟩++u).data.toList=O by rw[C.out,<-d,<-E];simp);clear q P Q f p;go_wp2_with (go_at_call 152;refine D.mono ?_;rintro e w3 ⟨rfl,R⟩)
   go_roundw;case rel=>exact⟨j+1,t++⟨#[32]⟩++u,by omega,by go_num,rfl,by rw[N];exact r.out,c.trans (R.mono c.size)⟩
   case measure=>simp[intOf];omega
  ·obtain rfl:j=n:=by omega
   have r:=Ab (Ac9 d);clear d;go_wp2;go_ret;exact⟨by rw[<-r.out];rfl,b0.trans (c.mono b0.size)⟩
theorem X4(w0:World):VQ w0.heap.size w0.heap.size [] (w0.alloc (aD #[aA aB,aE aB 0 0] 102)):=by
 refine .inl ⟨aM _,aE aB 0 0,?_,World.ownsRowF_nil _ _ _ _,?_⟩
 ·unfold dr;simp
 ·intro e;cases e
theorem KI{b:Nat}{l:List UInt8}(h:VQ B b l w)(a:l≠[]):Calls prog 71 #[aA (aC ⟨b,0,aB⟩)] w fun e w'=>e=aJ (aH ⟨l.toArray⟩)/\Dz B b l w w':=by
 refine(Sm B b l w h a).mono ?_;rintro e w' ⟨rfl,h1,c,d⟩;exact⟨rfl,h1,c,d⟩
abbrev Rbl(B b:Nat)(bs:List Value)(w:World):Prop:=dm 100 5 B b bs w
abbrev Zy(B b:Nat)(bs:List Value)(w:World):Prop:=bI 100 5 B b (aA (aC ⟨b,0,aB⟩)) bs w
theorem Aby:liesAt prog aX.depth 100 (2/aX.cellsOf 100) 0 100 1=true:=by kernel_rfl
theorem Abz:(aX.info? 100).map (·.size)=aC 2:=by kernel_rfl
theorem JC(B b:Nat)(bs:List Value)(w:World)(h:Rbl B b bs w):Calls prog 163 #[aA (aC ⟨b,0,aB⟩)] w fun e w'=>e=aJ (aZ #[])/\Zy B b bs w'/\Below B w w'/\aR 5 (aC b) w w':=by
 obtain⟨j,a,d⟩:=aS.1 Abz;rcases h with h|h
 ·have f:=h.cell0;have c:=h.shape;have l:=h.frozen0;have g:=Ab (h.used (aA (aC ⟨b,0,aB⟩)));have i:=h.1;clear h;go_enter func163,ntmps163;go_wp2;rw[c8 _ ⟨b,0,aB⟩ underlying98 underlying200 a (by rw[d];decide) c (c9 1)];simp only[aP];rw[bG];go_wp2;rw[aL func218 (by kernel_rfl) (by kernel_rfl) (by kernel_rfl) (e:=bS) (by kernel_rfl)];rw[df];simp only[aP];rw[bG];go_wp2;rw[cU _ ⟨b,0,aB⟩ underlying200 underlying98 a c Aby];simp only[aP];rw[bG];go_wp2;go_end0
  exact⟨rfl,g.out,(aN B w).setCell (p:=⟨b,0,aB⟩) i _,(aW _ _ w).setCell ⟨b,0,aB⟩ rfl _⟩
 ·have f:=h.cell0;have k:=Ab h;clear h;go_enter func163,ntmps163;go_wp2;rw[cR _ _ underlying98 a];go_wp2;go_end0
  exact⟨rfl,k.out,aN B _,aW _ _ _⟩
theorem Tg:(aX.info? 5).map (fun i=>(i.zero,i.size,i.bytes))=aC (aC (.int .u8 0),1,1):=by kernel_rfl
theorem X5:aX.cellsOf 5=1:=by kernel_rfl
theorem Th(B b:Nat)(bs:List Value)(c:Int)(w:World)(h:Rbl B b bs w)(H:bs.length+1<=140737488355328)(I:B<=w.heap.size):Calls prog 102 #[aA (aC ⟨b,0,aB⟩),.int .u8 c] w fun e w'=>e=aJ .nilIface/\Zy B b (bs++[.int .u8 c]) w'/\Below B w w'/\aR 5 (aC b) w w':=by
 obtain⟨i0,x,y,z,A⟩:=cM Tg;have q:=JC B b bs w h;clear h;go_enter func102,ntmps102;go_wp2_with (go_at_call 163;refine q.mono ?_)
 rintro e w1 ⟨rfl,h1,a,C⟩;clear q;obtain⟨r,v,d,m,D⟩:=h1;have c0:w1.cell? ⟨b,0,aB⟩=aC (aA (aC ⟨b,0,aB⟩)):=by rw[aI d];rfl
 have J:w1.cell? ⟨b,1,aB⟩=aC v:=by rw[aI d];rfl
 go_wp2_with (at_builtin;refine dk _ rfl _ _ 22 rfl B 5 i0 (.int .u8 0) 1 1 underlying22 x y z A rfl (by decide) _ _ _ rfl (m.alloc _) ⟨w1.heap.size,0,aB⟩ 1 1 [.int .u8 c] rfl rfl ?c1 ?c2 ?c3 ?c4 ?c5 ?_)
 case c1 =>
  intro j u f
  match j,f with
  | 0,f=>simp at f;subst f;simp[Addr.add]
 case c2=>intro u s;simp at s;subst s;rfl
 case c3=>unfold cI;omega
 case c4=>omega
 case c5=>have:=a.size;simp;omega
 intro v' w2 t n _;have E:b<w1.heap.size:=by
  rcases bC b w1.heap.size with o|o
  ·exact o
  ·simp[aO o]at d
 have i:w2.heap[b]?=aC (aD #[aA (aC ⟨b,0,aB⟩),v] 100 (0,0)):=by
  rw[n.block b (by simp;omega) (fun e=>D e.symm),ds w1 _ b E];exact d
 have K:w2.cell? ⟨b,0,aB⟩=aC (aA (aC ⟨b,0,aB⟩)):=by rw[aI i];rfl
 have L:w2.cell? ⟨b,1,aB⟩=aC v:=by rw[aI i];rfl
 have M:w2.frozen? ⟨b,1,aB⟩=false:=bN i 1;obtain⟨g,l,rfl⟩:∃g l,v'=aE (aC ⟨g,0,aB⟩) (bs.length+1) l:=by
  rcases t.2 with ⟨_,N⟩|⟨g,l,O,P,F,_⟩
  ·omega
  ·exact⟨g,l,F⟩
 go_wp2;go_ret;refine⟨rfl,?_,?_,((C.alloc _).grown n (bO (m.alloc _))).setCell ⟨b,1,aB⟩ rfl _⟩
 ·exact bJ (T:=100) (e:=5) r i (bs':=bs++[.int .u8 c]) (by simpa using t) (by decide)
 ·exact((a.alloc (by have:=a.size;omega) _).grown n (by have:=a.size;simp;omega) (fun k G=>(m.lt k G).1)).setCell (p:=⟨b,1,aB⟩) r _
theorem NZ(B b:Nat)(bs:List Value)(s:ByteArray)(w:World)(h:Rbl B b bs w)(D:bs.length+s.size<=140737488355328)(E:B<=w.heap.size):Calls prog 101 #[aA (aC ⟨b,0,aB⟩),aH s] w fun e w'=>e=aJ (aZ #[.int .i64 s.size,.nilIface])/\Zy B b (bs++bM s) w'/\Below B w w'/\aR 5 (aC b) w w':=by
 obtain⟨i0,r,t,u,x⟩:=cM Tg;have n:=JC B b bs w h;clear h;go_enter func101,ntmps101;go_wp2_with (go_at_call 163;refine n.mono ?_)
 rintro e w1 ⟨rfl,h1,d,y⟩;clear n;obtain⟨o,v,a,f,z⟩:=h1;have c0:w1.cell? ⟨b,0,aB⟩=aC (aA (aC ⟨b,0,aB⟩)):=by rw[aI a];rfl
 have F:w1.cell? ⟨b,1,aB⟩=aC v:=by rw[aI a];rfl
 go_wp2_with (at_builtin;refine cF _ rfl _ _ 22 9 rfl B 5 i0 underlying22 underlying9 r t u x _ _ _ rfl f s rfl ?c3 ?c4 ?c5 ?_)
 case c3=>unfold cI;omega
 case c4=>omega
 case c5=>have:=d.size;omega
 intro v' w2 q i _;have A:b<w1.heap.size:=by
  rcases bC b w1.heap.size with j|j
  ·exact j
  ·simp[aO j]at a
 have c:w2.heap[b]?=aC (aD #[aA (aC ⟨b,0,aB⟩),v] 100 (0,0)):=by
  rw[i.block b A (fun e=>z e.symm)];exact a
 have G:w2.cell? ⟨b,0,aB⟩=aC (aA (aC ⟨b,0,aB⟩)):=by rw[aI c];rfl
 have H:w2.cell? ⟨b,1,aB⟩=aC v:=by rw[aI c];rfl
 have I:w2.frozen? ⟨b,1,aB⟩=false:=bN c 1;obtain⟨ao,n',l,rfl⟩:∃ao n' l,v'=aE ao n' l:=by
  rcases q.2 with ⟨m,_⟩|⟨g,l,J,K,m,_⟩
  ·exact⟨_,_,_,m⟩
  ·exact⟨_,_,_,m⟩
 go_wp2;go_ret2
 refine⟨rfl,?_,?_,(y.grown i (bO f)).setCell ⟨b,1,aB⟩ rfl _⟩
 ·exact bJ (T:=100) (e:=5) o c (bs':=bs++bM s) (by simpa [cT] using q) (by decide)
 ·exact(d.grown i (by have:=d.size;omega) (fun k C=>(f.lt k C).1)).setCell (p:=⟨b,1,aB⟩) o _
theorem Ti(B b:Nat)(l:List UInt8)(w:World)(h:Rbl B b (aF l) w)(k:l≠[]):Calls prog 71 #[aA (aC ⟨b,0,aB⟩)] w fun e w'=>e=aJ (aH ⟨l.toArray⟩)/\Rbl B b (aF l) w'/\Below B w w'/\aR 5 (aC b) w w':=by
 obtain⟨p,o,q⟩:∃p,(p=aA aB\/p=aA (aC ⟨b,0,aB⟩))/\bI 100 5 B b p (aF l) w:=by
  rcases h with h|h
  ·exact⟨_,.inl rfl,h⟩
  ·exact⟨_,.inr rfl,h⟩
 obtain⟨s,v,m,f,t⟩:=q;have u:l.length≠0:=by simpa using k
 rw[aK]at f;obtain⟨g,a,c,d,rfl,y,n,I,J,z,K,L⟩:∃g a c d,v=aE (aC ⟨g,0,aB⟩) l.length a/\B<=g/\w.heap[g]?=aC (aD c 5 d)/\d.2<=l.length*1/\l.length<=a/\a<=cI/\c.size=a*1/\c.toList.take (l.length*1)=aF l:=by
  rcases f.2 with ⟨_,A⟩|⟨g,a,c,d,C,r⟩
  ·exact absurd A u
  ·exact⟨g,a,c,d,C,r⟩
 have D:w.drew.cell? ⟨b,1,aB⟩=aC (aE (aC ⟨g,0,aB⟩) l.length a):=by
  have:w.drew.heap[b]?=aC (aD #[p,aE (aC ⟨g,0,aB⟩) l.length a] 100 (0,0)):=m;rw[aI this];rfl
 have M:(cG #[22] 196 #[aE (aC ⟨g,0,aB⟩) l.length a]).run prog w.drew=.ok (aA (aC ⟨g,0,aB⟩)) w.drew :=
  cH _ _ _ _ _ _ (by omega)
 have N:(cK #[196,3] 9 #[aA (aC ⟨g,0,aB⟩),.int .i64 l.length]).run prog w.drew=.ok (aH ⟨l.toArray⟩) (w.drew.freeze ⟨g,0,aB⟩ l.length):=by
  refine cL w.drew 196 3 9 5 underlying196 X5 g c.size (by have E:w.drew.heap[g]?=aC (aD c 5 d):=n;simp[dl,E]) l k (by omega) (by unfold cI at z;omega) ?_;intro j x F;have:=f.cells (g:=g) rfl j (.int .u8 x.toNat) (by simp[aF,F]);exact this
 have G:Rbl B b (aF l) (w.drew.freeze ⟨g,0,aB⟩ l.length):=by
  have H:bI 100 5 B b p (aF l) w.drew:=⟨s,_,m,by rw[aK];exact f,t⟩;have i:=H.froze (g:=g) (cap:=a) (by rw[aK];exact D);rw[aK]at i;rcases o with rfl|rfl
  ·exact .inl i
  ·exact .inr i
 have mixed:aX.follows .mixedOrders=true:=by kernel_rfl
 go_enter func71,ntmps71;go_wp2;go_region_o
 all_goals (go_wp2;go_ret;exact⟨rfl,G,dg (cS (aN B w)) (p:=⟨g,0,aB⟩) y _,((aW _ _ w).drew).freeze ⟨g,0,aB⟩ _ ⟨c,d,n⟩⟩)
def X6(B b:Nat)(l:List UInt8)(w:World):Prop:=Rbl B b (aF l) w
theorem X6.gr{b:Nat}{l:List UInt8}(h:X6 B b l w)(a:Below w.heap.size w u):X6 B b l u:=VP h a
def Rwt(B b:Nat)(l:List UInt8)(w w':World):Prop:=X6 B b l w'/\Below B w w'/\aR 5 (aC b) w w'
theorem Tj{b:Nat}{l:List UInt8}(c:UInt8)(h:X6 B b l w)(a:l.length+1<=140737488355328)(d:B<=w.heap.size):Calls prog 102 #[aA (aC ⟨b,0,aB⟩),.int .u8 (c.toNat:Int)] w fun e w'=>e=aJ .nilIface/\Rwt B b (l++[c]) w w':=by
 refine(Th B b (aF l) c.toNat w h (by rw[aK];exact a) d).mono ?_;rintro e w' ⟨rfl,h1,f,g⟩;refine⟨rfl,.inr ?_,f,g⟩;rw[Dy];exact h1
theorem Ob{b:Nat}{l:List UInt8}(s:ByteArray)(h:X6 B b l w)(a:l.length+s.data.toList.length<=140737488355328)(c:B<=w.heap.size):Calls prog 101 #[aA (aC ⟨b,0,aB⟩),aH s] w fun e w'=>e=aJ (aZ #[.int .i64 s.size,.nilIface])/\Rwt B b (l++s.data.toList) w w':=by
 refine(NZ B b (aF l) s w h (by rw[aK];simpa using a) c).mono ?_;rintro e w' ⟨rfl,h1,d,f⟩;refine⟨rfl,.inr ?_,d,f⟩;rw[Dy,<-Fc];exact h1
theorem Rwt.trans{b:Nat}{l m:List UInt8}{v:World}(h:Rwt B b l w u)(k:Rwt B b m u v):Rwt B b m w v:=⟨k.1,h.2.1.trans k.2.1,h.2.2.trans k.2.2⟩
def JE(f:PRes)(w:World)(e:Ending)(w':World):Prop:=Below w.heap.size w w'/\match f with
 | .good bs=>∃a n c d,e=aJ (aZ #[aE a n c,.nilIface])/\BH d=bs/\Ay w.heap.size w' (C9 (aE a n c) d)/\(∀b∈d,b.sm)/\d.length<=1000000
 | .bad m c=>e=aJ (aZ #[aE aB 0 0,Ja m c])
theorem JF(s:ByteArray)(A:s.size<=4000000)(l:BZ w):Calls prog 72 #[aH s] w fun e w'=>JE (AU s.data.toList) w e w':=by
 have b:=Su s w (by omega);by_cases d:Cm s.data.toList
 ·rw[decide_eq_true d]at b;have f:=Ab (show JE (AU s.data.toList) w (aJ (aZ #[aE aB 0 0,Ja 0 11])) w from⟨aN _ _,by rw[Sh d]⟩);clear l;unfold Ja at *;go_enter func72,ntmps72;go_wp2_with (go_at_call 70;refine b.mono ?_;rintro e w2 ⟨rfl,rfl⟩)
  go_ret2
  exact f.out
 ·rw[decide_eq_false d]at b;have x:s.size<=1048576:=by
   have h1:s.data.toList.length=s.size:=rfl;unfold Cm at d;omega
  have o:=(aN w.heap.size w).alloc (aM _) (aD #[aH s,.int .i64 0] 198);have q:=Ai w (aD #[aH s,.int .i64 0] 198);have B:(w.alloc (aD #[aH s,.int .i64 0] 198)).heap.size=w.heap.size+1:=by simp
  have y:(textLines s.data.toList).length<=400:=by
   unfold Cm at d;omega
  have h:=Vj (R:=w.heap.size) (rest:=s) (w:=w.alloc (aD #[aH s,.int .i64 0] 198)) q x (by omega) (fun W g=>l.V (C7 o (by omega) (aM _) g));have r:=WC d;rw[<-r]at h;have p:=Ab o;clear l o q r y;go_enter func72,ntmps72;go_wp2_with (first|(go_at_call 70;refine b.mono ?_;rintro e w0 ⟨rfl,rfl⟩)|(go_at_call 140;refine h.mono ?_))
  rintro e w2 ⟨g,i⟩;have j:=C7 p.out (by omega) (aM _) g;cases k:AU s.data.toList with
  | good bs =>
   rw[k]at i;obtain⟨a,n,c,z,rfl,h1,t,u,v⟩:=i;have f:=Ab (show JE (AU s.data.toList) w0 (aJ (aZ #[aE a n c,.nilIface])) w2 from by rw[k];exact⟨j,a,n,c,z,rfl,h1,t.mono (by omega),u,v⟩);clear h b g h1 t u v j p;go_wp2;go_ret2
   exact f.out
  | bad m c =>
   rw[k]at i;obtain rfl:=i;have f:=Ab (show JE (AU s.data.toList) w0 (aJ (aZ #[aE aB 0 0,Ja m c])) w2 from by rw[k];exact⟨j,rfl⟩);clear h b g j p;unfold Ja at *;go_wp2;go_ret2
   exact f.out
variable {i Y q:Nat}{W0 W W':World}{lv:Value}{Q:Exit -> Act -> World -> Prop}{a:Act}
def Q0: Oper := ⟨aC 26, .fieldAddr 46 (.tmp 8) 2, 0, "l3_parse.go:71", #[], aB⟩
def Q1: Oper := ⟨aC 27, .load 44 (.tmp 26), 44, "l3_parse.go:71", #[⟨0, .data⟩], aB⟩
def Q2: Oper := ⟨aC 28, .fieldAddr 46 (.tmp 8) 0, 0, "l3_parse.go:71", #[], aB⟩
def Q3: Oper := ⟨aC 29, .load 9 (.tmp 28), 9, "l3_parse.go:71", #[⟨2, .data⟩], aB⟩
def Q4: Oper := ⟨aC 30, .call { callee := .value (.func 29), args := #[.tmp 29], argTypes := #[9] }, 47, "l3_parse.go:71", #[⟨3, .data⟩], aB⟩
def Q5: Oper := ⟨aC 31, .call { callee := .value (.func 75), args := #[.tmp 30], argTypes := #[47] }, 116, "l3_parse.go:71", #[⟨4, .data⟩, ⟨4, .chain⟩], aB⟩
def Q6: Oper := ⟨aC 32, .call { callee := .value (.func 74), args := #[.tmp 27, .tmp 31], argTypes := #[44, 116] }, 0, "l3_parse.go:71", #[⟨1, .data⟩, ⟨5, .data⟩, ⟨5, .chain⟩], aB⟩
def Ae7:List Oper:=[Q0,Q1,Q2,Q3,Q4,Q5,Q6]
def XC(W0:World)(d:World->World->Prop)(Y:Nat)(lv:Value)(kind:ByteArray)(i:Nat)(x:Value)(W:World):Prop:=match i with
 | 0=>x=aA (aC ⟨Y,2,aB⟩)
 | 1=>x=lv
 | 2=>x=aA (aC ⟨Y,0,aB⟩)
 | 3=>x=aH kind
 | 4=>∃b nl c L,x=aE b nl c/\L.map AL.I=rulesOf kind/\Bh W0.heap.size W (aE b nl c) L
 | 5=>∃a vr L,x=.func (.func 147) #[] #[aA (aC ⟨a,0,aB⟩)]/\W.cell? ⟨a,0,aB⟩=aC vr/\L.map AL.I=rulesOf kind/\Bh W0.heap.size W vr L/\W0.heap.size<=a
 | 6=>x=aZ #[]/\∃W1,Below W0.heap.size W0 W1/\d W1 W
 | _=>True
def S8C(L:Nat->Bool):Prop:=(L 1=true->L 0=true)/\(L 3=true->L 2=true)/\(L 4=true->L 3=true)/\(L 5=true->L 4=true)/\(L 6=true->L 1=true/\L 5=true)
theorem S8C.none{L:Nat->Bool}(h:S8C L)(b:i<6)(a:L i=false):L 6=false:=by
 obtain⟨h1,c,d,e,f⟩:=h;cases g:L 6 with
 | false=>rfl
 | true =>
  obtain⟨a1,a5⟩:=f g;have a0:=h1 a1;have a4:=e a5;have a3:=d a4;have a2:=c a3
  match i,b,a with
  | 0,_,a=>rw[a0]at a;cases a
  | 1,_,a=>rw[a1]at a;cases a
  | 2,_,a=>rw[a2]at a;cases a
  | 3,_,a=>rw[a3]at a;cases a
  | 4,_,a=>rw[a4]at a;cases a
  | 5,_,a=>rw[a5]at a;cases a
def S8G(W0:World)(L:Nat->Bool)(W:World):Prop:=S8C L/\(L 6=false->Below W0.heap.size W0 W)
theorem S8C.put{L:Nat->Bool}(h:S8C L)(i:Nat)(h1:i=1->L 0=true)(c:i=3->L 2=true)(d:i=4->L 3=true)(f:i=5->L 4=true)(b:i=6->L 1=true/\L 5=true):S8C (BN L i):=by
 have m:∀j,L j=true->BN L i j=true:=fun j a=>by unfold BN;split <;> first|rfl|exact a
 have u:∀j,BN L i j=true->i=j\/L j=true:=fun j a=>by
  unfold BN at a;split at a
  ·rename_i e;exact .inl e.symm
  ·exact .inr a
 refine⟨fun h=>?_,fun h=>?_,fun h=>?_,fun h=>?_,fun h=>?_⟩;all_goals (have g:=‹S8C L›;obtain⟨k,c2,c3,c4,c5⟩:=g)
 ·rcases u _ h with e|e;exact m _ (h1 e);exact m _ (k e)
 ·rcases u _ h with e|e;exact m _ (c e);exact m _ (c2 e)
 ·rcases u _ h with e|e;exact m _ (d e);exact m _ (c3 e)
 ·rcases u _ h with e|e;exact m _ (f e);exact m _ (c4 e)
 ·rcases u _ h with e|e
  ·exact⟨m _ (b e).1,m _ (b e).2⟩
  ·exact⟨m _ (c5 e).1,m _ (c5 e).2⟩
theorem XC.af{c:World->World->Prop}(a:Below W.heap.size W W'):∀(i:Nat) (x:Value),i≠6->XC W0 c Y lv kind i x W->XC W0 c Y lv kind i x W':=by
 intro i x d h;unfold XC at *;split <;> simp only at h
 all_goals first|exact absurd rfl d|exact h|trivial|(obtain⟨f,nl,g,L,e,h1,b⟩:=h;exact⟨f,nl,g,L,e,h1,Ay.V b a⟩)|(obtain⟨j,vr,L,e,h1,b,k,l⟩:=h;exact⟨j,vr,L,e,(a.cell (aQ _ _ h1)).trans h1,b,Ay.V k a,l⟩)
theorem XC.turn{c:World->World->Prop}(a:W.grownBy W' (aC q))(d:q<W0.heap.size):∀(i:Nat) (x:Value),i≠6->XC W0 c Y lv kind i x W->XC W0 c Y lv kind i x W':=by
 intro i x g h;unfold XC at *;split <;> simp only at h
 all_goals first|exact absurd rfl g|exact h|trivial|(obtain⟨j,nl,k,L,e,h1,b⟩:=h;exact⟨j,nl,k,L,e,h1,Ay.other b a d⟩)|(obtain⟨f,vr,L,e,h1,b,l,m⟩:=h;exact⟨f,vr,L,e,(a.cell_far ⟨f,0,aB⟩ (aQ W _ h1) (by intro e;have:=Option.some.inj e;simp only at this;omega)).trans h1,b,Ay.other l a d,m⟩)
theorem Z4{A B:Nat}{C:Option Addr}(E:World->World->Prop)(I:W0.cell? ⟨Y,0,aB⟩=aC (aH kind))(J:W0.cell? ⟨Y,2,aB⟩=aC (aE C A B))
  (O:∀W t vr L,Below W0.heap.size W0 W->W.cell? ⟨t,0,aB⟩=aC vr->L.map AL.I=rulesOf kind->Bh W0.heap.size W vr L->W0.heap.size<=t->Calls prog 74 #[(aE C A B),.func (.func 147) #[] #[aA (aC ⟨t,0,aB⟩)]] W fun e w'=>e=aJ (aZ #[])/\E W w')
  (P:∀W W',E W W'->∃q,W.grownBy W' (aC q)/\q<W0.heap.size) (M:a.eval (.tmp 8)=(aA (aC ⟨Y,0,aB⟩))) (aq:a.tmps.size=39)
  (R:∀v a' W1 W2,a'=An a [26,27,28,29,30,31,32] v->Below W0.heap.size W0 W1->E W1 W2->Q .normal a' W2):(Code.region 8 Ae7.toArray true).wp prog Q a W0:=by
 have l:([26,27,28,29,30,31,32]:List Nat).Nodup:=by decide
 have S:=aQ _ _ I;have U:=aQ _ _ J;refine E7 [26,27,28,29,30,31,32] (XC W0 E Y (aE C A B) kind) (S8G W0) 7 [0,1,2,3,4,5,6] (by kernel_rfl) rfl (by decide) (by kernel_rfl) ?h1 ⟨⟨fun h=>(by cases h),fun h=>(by cases h),fun h=>(by cases h),fun h=>(by cases h),fun h=>(by cases h)⟩,fun _=>(aN _ _).drew⟩ ?hall (fun v w' L ar V au=>by
  obtain⟨_,W1,X,F⟩:=V 6;exact NoPanic.normal (R v _ W1 w' rfl X F))
 case h1 =>
  intro i x W av;unfold XC;split <;> first|omega|trivial
 refine Ak.ae (o:=Q0) [] (by kernel_rfl) (by decide) (by kernel_rfl) rfl ?o0 (Ak.ae (o:=Q1) [0] (by kernel_rfl) (by decide) (by kernel_rfl) rfl ?o1 (Ak.ae (o:=Q2) [] (by kernel_rfl) (by decide) (by kernel_rfl) rfl ?o2 (Ak.ae (o:=Q3) [2] (by kernel_rfl) (by decide) (by kernel_rfl) rfl ?o3 (Ak.ae (o:=Q4) [3] (by kernel_rfl) (by decide) (by kernel_rfl) rfl ?o4 (Ak.ae (o:=Q5) [4,4] (by kernel_rfl) (by decide) (by kernel_rfl) rfl ?o5 (Ak.ae (o:=Q6) [1,5,5] (by kernel_rfl) (by decide) (by kernel_rfl) rfl ?o6 Ak.nil))))));case o0 =>
  rintro u L _ W k g ⟨v,rfl,f,b⟩ K m;have c:=b.2 (b.1.none (i:=0) (by decide) k);have G:=(A6 (v:=v) (show 8 ∉ ([26,27,28,29,30,31,32]:List Nat) by decide)).trans M;have d : bF (An a [26, 27, 28, 29, 30, 31, 32] v).eval Q0 = bF (bT ⟨#[undef], []⟩) ⟨aC 0, .fieldAddr 46 (.const (aA (aC ⟨Y, 0, aB⟩))) 2, 0, "", #[], aB⟩ := by simp only[bF, Ae, Q0, G]
  refine BJ.mk ?_;unfold bW;rw[d];clear d;go_simp;exact m.out _ _ (AE.next (W:=W) f 0 (aA (aC ⟨Y,2,aB⟩)) (Av 0 l rfl) (fun _ _ h=>h) rfl ⟨(b.1.put 0 (fun e=>by omega) (fun e=>by omega) (fun e=>by omega) (fun e=>by omega) (fun e=>by omega)),fun _=>c⟩)
 case o1 =>
  rintro u L _ W k g ⟨v,rfl,f,b⟩ K m;have c:=b.2 (b.1.none (i:=1) (by decide) k);have Z:(An a [26,27,28,29,30,31,32] v).eval (.tmp 26)=_:=(Ao 0 l rfl (by omega)).trans (f 0 (g 0 (by simp)));have aw:=(c.cell U).trans J;have d : bF (An a [26, 27, 28, 29, 30, 31, 32] v).eval Q1 = bF (bT ⟨#[undef], []⟩) ⟨aC 0, .load 44 (.const (aA (aC ⟨Y, 2, aB⟩))), 0, "", #[], aB⟩ := by simp only[bF, Ae, Q1, Z]
  refine BJ.mk ?_;unfold bW;rw[d];clear d;go_simp;exact m.out _ _ (AE.next (W:=W) f 1 (aE C A B) (Av 1 l rfl) (fun _ _ h=>h) rfl ⟨(b.1.put 1 (fun _=>g 0 (by simp)) (fun e=>by omega) (fun e=>by omega) (fun e=>by omega) (fun e=>by omega)),fun _=>c⟩)
 case o2 =>
  rintro u L _ W k g ⟨v,rfl,f,b⟩ K m;have c:=b.2 (b.1.none (i:=2) (by decide) k);have G:=(A6 (v:=v) (show 8 ∉ ([26,27,28,29,30,31,32]:List Nat) by decide)).trans M;have d : bF (An a [26, 27, 28, 29, 30, 31, 32] v).eval Q2 = bF (bT ⟨#[undef], []⟩) ⟨aC 0, .fieldAddr 46 (.const (aA (aC ⟨Y, 0, aB⟩))) 0, 0, "", #[], aB⟩ := by simp only[bF, Ae, Q2, G]
  refine BJ.mk ?_;unfold bW;rw[d];clear d;go_simp;exact m.out _ _ (AE.next (W:=W) f 2 (aA (aC ⟨Y,0,aB⟩)) (Av 2 l rfl) (fun _ _ h=>h) rfl ⟨(b.1.put 2 (fun e=>by omega) (fun e=>by omega) (fun e=>by omega) (fun e=>by omega) (fun e=>by omega)),fun _=>c⟩)
 case o3 =>
  rintro u L _ W k g ⟨v,rfl,f,b⟩ K m;have c:=b.2 (b.1.none (i:=3) (by decide) k);have aa:(An a [26,27,28,29,30,31,32] v).eval (.tmp 28)=_:=(Ao 2 l rfl (by omega)).trans (f 2 (g 2 (by simp)));have k0:=(c.cell S).trans I;have d : bF (An a [26, 27, 28, 29, 30, 31, 32] v).eval Q3 = bF (bT ⟨#[undef], []⟩) ⟨aC 0, .load 9 (.const (aA (aC ⟨Y, 0, aB⟩))), 0, "", #[], aB⟩ := by simp only[bF, Ae, Q3, aa]
  refine BJ.mk ?_;unfold bW;rw[d];clear d;go_simp;exact m.out _ _ (AE.next (W:=W) f 3 (aH kind) (Av 3 l rfl) (fun _ _ h=>h) rfl ⟨(b.1.put 3 (fun e=>by omega) (fun _=>g 2 (by simp)) (fun e=>by omega) (fun e=>by omega) (fun e=>by omega)),fun _=>c⟩)
 case o4 =>
  rintro u L _ W k g ⟨v,rfl,f,b⟩ K m;have c:=b.2 (b.1.none (i:=4) (by decide) k);have ab:(An a [26,27,28,29,30,31,32] v).eval (.tmp 29)=_:=(Ao 3 l rfl (by omega)).trans (f 3 (g 3 (by simp)));have ac:=CU kind W;have d : bF (An a [26, 27, 28, 29, 30, 31, 32] v).eval Q4 = bF (bT ⟨#[undef], []⟩) ⟨aC 0, .call { callee := .value (.func 29), args := #[.const (aH kind)], argTypes := #[9] }, 0, "", #[], aB⟩ := by simp only[bF, Ae, Q4, resolve, Cu, cD, aU, bZ, ab]
  refine BJ.mk ?_;unfold bW;rw[d];clear d;go_simp;refine ac.mono ?_;rintro e W' ⟨vr,r,rfl,D,z,b'⟩;obtain⟨n,p,e,_⟩:=Al (Ay.head z);have ad:vr=aE n r.length p:=e;subst ad;exact m.out _ _ (AE.ak (W:=W) f 4 (aE n r.length p) (Av 4 l rfl) (fun j y s h=>XC.af b' j y (fun e=>by rw[e,b.1.none (i:=4) (by decide) k]at s;cases s) h) ⟨n,r.length,p,r,rfl,D,Ay.mono z c.size⟩ ⟨(b.1.put 4 (fun e=>by omega) (fun e=>by omega) (fun _=>g 3 (by simp)) (fun e=>by omega) (fun e=>by omega)),fun _=>c.trans (b'.mono c.size)⟩)
 case o5 =>
  rintro u L _ W k g ⟨v,rfl,f,b⟩ K m;have c:=b.2 (b.1.none (i:=5) (by decide) k);obtain⟨n,nl,p,r,ae,D,z⟩:=f 4 (g 4 (by simp));have af:(An a [26,27,28,29,30,31,32] v).eval (.tmp 30)=_:=(Ao 4 l rfl (by omega)).trans ae;have ag:=E4 (v:=aE n nl p) ⟨_,_,_,rfl⟩ W;have H:=(aN W.heap.size W).alloc (aM _) (aD #[aE n nl p] 47);have N:=AH (w:=W) (cs:=#[aE n nl p]) (T:=47) 0;simp only[bE,bB]at N;have d : bF (An a [26, 27, 28, 29, 30, 31, 32] v).eval Q5 = bF (bT ⟨#[undef], []⟩) ⟨aC 0, .call { callee := .value (.func 75), args := #[.const (aE n nl p)], argTypes := #[47] }, 0, "", #[], aB⟩ := by simp only[bF, Ae, Q5, resolve, Cu, cD, aU, bZ, af]
  refine BJ.mk ?_;unfold bW;rw[d];clear d;go_simp;refine ag.mono ?_;rintro e W' ⟨rfl,rfl⟩;exact m.out _ _ (AE.ak (W:=W) f 5 (.func (.func 147) #[] #[aA (aC ⟨W.heap.size,0,aB⟩)]) (Av 5 l rfl) (fun j y s h=>XC.af H j y (fun e=>by rw[e,b.1.none (i:=5) (by decide) k]at s;cases s) h) ⟨W.heap.size,aE n nl p,r,rfl,N,D,Ay.V z H,c.size⟩ ⟨(b.1.put 5 (fun e=>by omega) (fun e=>by omega) (fun e=>by omega) (fun _=>g 4 (by simp)) (fun e=>by omega)),fun _=>c.trans (H.mono c.size)⟩)
 case o6 =>
  rintro u L _ W k g ⟨v,rfl,f,b⟩ K m;have c:=b.2 k;obtain⟨t,vr,r,ah,ai,D,z,aj⟩:=f 5 (g 5 (by simp));have ak:(An a [26,27,28,29,30,31,32] v).eval (.tmp 27)=_:=(Ao 1 l rfl (by omega)).trans (f 1 (g 1 (by simp)));have al:(An a [26,27,28,29,30,31,32] v).eval (.tmp 31)=_:=(Ao 5 l rfl (by omega)).trans ah;have am:=O W t vr r c ai D z aj;have d : bF (An a [26, 27, 28, 29, 30, 31, 32] v).eval Q6 = bF (bT ⟨#[undef], []⟩) ⟨aC 0, .call { callee := .value (.func 74), args := #[.const (aE C A B), .const (.func (.func 147) #[] #[aA (aC ⟨t, 0, aB⟩)])], argTypes := #[44, 116] }, 0, "", #[], aB⟩ := by simp only[bF, Ae, Q6, resolve, Cu, cD, aU, bZ, ak, al]
  refine BJ.mk ?_;unfold bW;rw[d];clear d;go_simp;refine am.mono ?_;rintro e W' ⟨rfl,F⟩;refine m.out _ _ (AE.ak (W:=W) f 6 (aZ #[]) (Av 6 l rfl) (fun j y s h=>?_) ⟨rfl,W,c,F⟩ ⟨(b.1.put 6 (fun e=>by omega) (fun e=>by omega) (fun e=>by omega) (fun e=>by omega) (fun _=>⟨g 1 (by simp),g 5 (by simp)⟩)),fun e=>by simp[BN]at e⟩);have an:j≠6:=fun e=>by rw[e,k]at s;cases s
  obtain⟨q,ao,ap⟩:=P _ _ F;exact XC.turn ao ap j y an h
variable {α β:Type}{v vr:Value}{L:List AL}{bs':List BAt}
theorem Ni{f:α->β}{l k:List β}(h:l.Perm k):∀ {m:List α},m.map f=k->∃m':List α,m'.Perm m/\m'.map f=l:=by
 induction h with
 | nil =>
  intro m c;have:m=[]:=by simpa using c
  exact⟨[],by rw[this],rfl⟩
 | cons x _ e =>
  intro m c
  match m,c with
  | a::d,c =>
   simp only[aU,cQ]at c;obtain⟨m',h1,g⟩:=e c.2;exact⟨a::m',h1.cons a,by rw[aU,c.1,g]⟩
 | swap x y t =>
  intro m c
  match m,c with
  | a::b::d,c =>
   simp only[aU,cQ]at c;exact⟨b::a::d,List.Perm.swap _ _ _,by rw[aU,aU,c.1,c.2.1,c.2.2]⟩
 | trans _ _ i j =>
  intro m c;obtain⟨p,a1,a2⟩:=j c;obtain⟨d,n,o⟩:=i a2;exact⟨d,n.trans a1,o⟩
def Wc(B:Nat)(b:DF)(W W':World):Prop:=∃ls':List LAt,ls'.Perm (b.ys.map Dk.l)/\W'.ownsRow B 115 2 b.v b.ys.length (ls'.flatMap LAt.cells)/\(∀i j:Nat,i<j->∀a c,ls'[i]?=aC a->ls'[j]?=aC c->lineLt (rulesOf b.aa) c.I a.I=false)/\W.grownBy W' b.v.ownBlock
theorem Ab0{ys:List Dk}(h:Ay B W (Du v ys))(f:v.ownBlock=aC q){y:Dk}(g:y∈ys):Bx q y.l.v y.l.ws.length:=by
 right;intro b off m c e;have a:=(List.pairwise_cons.1 h.2).1 y.r (bL g);have i:y.r.v.ownBlock=aC y.g:=rfl;have j:b=y.g:=by
  have d:y.ta=aC ⟨b,off,aB⟩:=by have:=e;unfold Dk.l at this;simp only at this;injection this
  unfold Dk.ta at d;split at d <;> · injection d with d;injection d with k;exact k.symm
 rcases a with a|a
 ·rw[show (⟨v,115,2,ys.length,(ys.map Dk.l).flatMap LAt.cells⟩:MRow).v.ownBlock=v.ownBlock from rfl,f]at a;cases a
 ·rw[show (⟨v,115,2,ys.length,(ys.map Dk.l).flatMap LAt.cells⟩:MRow).v.ownBlock=v.ownBlock from rfl,f,i]at a;intro l;exact a (by rw[<-j,l])
theorem Vm{b:DF}{a:Nat}(h:Ay B W0 (Du b.v b.ys))(j:b.sm)(p:Below W0.heap.size W0 W)(r:W.cell? ⟨a,0,aB⟩=aC vr)(k:L.map AL.I=rulesOf b.aa)(l:Bh W0.heap.size W vr L)(v:W0.heap.size<=a):
  Calls prog 74 #[b.v,.func (.func 147) #[] #[aA (aC ⟨a,0,aB⟩)]] W fun e w'=>e=aJ (aZ #[])/\Wc B b W w':=by
 have d:=Ay.V h p;have s:L.length<=12:=by
  have:=(Bm b.aa).1;rw[<-k,aY]at this;exact this
 have h1:W.ownsRow B 115 2 b.v (b.ys.map Dk.l).length ((b.ys.map Dk.l).flatMap LAt.cells):=by rw[aY];exact Ay.head d
 have m:W0.ownsRow B 115 2 b.v b.ys.length ((b.ys.map Dk.l).flatMap LAt.cells):=Ay.head h;refine(I4 (g:=a) (L:=L) h1 s l.rin r (fun x f=>?_) (fun q i=>⟨?_,?_,fun x f=>?_⟩) (by rw[aY];have:=j.2.1;omega)).mono ?_
 ·obtain⟨y,c,rfl⟩:=bY.1 f;exact⟨Qz (d.1 y.r (List.mem_cons_of_mem _ (bL c))),bD (j.2.2 y c).1 (by decide)⟩
 ·exact Bx.above (Ay.head l) (m.lt q i).2
 ·have:=(m.lt q i).2;omega
 ·obtain⟨y,c,rfl⟩:=bY.1 f;exact Ab0 d i c
 ·rintro e w' ⟨rfl,ls',t,n,o,u⟩;rw[aY]at n;rw[k]at o;exact⟨rfl,ls',t,n,o,u⟩
theorem Q7{D T:List DF}{b:DF}(h:Ay B W (C9 v (D++b::T)))(m:Wc B b W W')(n:BA (rulesOf b.aa) (BU b.ys))(f:b.sm):∃b':DF,b'.b.I=Im b.b.I/\b'.sm/\Ay B W' (C9 v (D++b'::T)):=by
 obtain⟨ls',o,p,q,r⟩:=m;obtain⟨d,e,l⟩:=Ni o rfl;have s:BU d=BG (rulesOf b.aa) (BU b.ys):=by
  refine Il n ?_ (fun i j t a c g k=>?_)
  ·unfold BU;exact(e.map Dk.l).map LAt.I
  ·unfold BU at g k;rw[l,cY]at g k;obtain⟨a',u,rfl⟩:=aS.1 g;obtain⟨w,x,rfl⟩:=aS.1 k;exact q i j t a' w u x
 refine⟨⟨b.aa,b.name,b.v,d⟩,?_,⟨f.1,by rw[e.length_eq];exact f.2.1,fun y z=>f.2.2 y (e.mem_iff.1 z)⟩,?_⟩
 ·show (⟨b.aa,b.name,BU d⟩:PBlock)=⟨b.aa,b.name,BG (rulesOf b.aa) (BU b.ys)⟩
  rw[s]
 ·unfold C9 at h⊢;rw[aT,cA]at h;have A:(⟨v,46,3,(D++b::T).length,((D++b::T).map DF.b).flatMap BAt.cells⟩::(D.flatMap (fun b=>Du b.v b.ys)++(Du b.v b.ys++T.flatMap (fun b=>Du b.v b.ys))):List MRow)=((⟨v,46,3,(D++b::T).length,((D++b::T).map DF.b).flatMap BAt.cells⟩:MRow)::D.flatMap (fun b=>Du b.v b.ys))++⟨b.v,115,2,b.ys.length,(b.ys.map Dk.l).flatMap LAt.cells⟩::(b.ys.map Dk.r++T.flatMap (fun b=>Du b.v b.ys)):=by
   simp[Du]
  rw[A]at h;have C:=Ay.midTurn (r':=⟨b.v,115,2,b.ys.length,ls'.flatMap LAt.cells⟩) h rfl p r;refine Ay.perm C ?_;rw[aT,cA];have E:(D++(⟨b.aa,b.name,b.v,d⟩:DF)::T).length=(D++b::T).length:=by simp
  have F:((D++(⟨b.aa,b.name,b.v,d⟩:DF)::T).map DF.b).flatMap BAt.cells=((D++b::T).map DF.b).flatMap BAt.cells:=by simp[DF.b,BAt.cells]
  rw[E,F,bK];refine cC _ (List.Perm.append_left _ ?_);unfold Du;rw[l,bK,e.length_eq];exact cC _ ((e.symm.map Dk.r).append_right _)
theorem Tn{a:List DF}(h:Ay B W (C9 v a))(e:bs'.Perm (a.map DF.b))(f:W'.ownsRow B 46 3 v a.length (bs'.flatMap BAt.cells))(g:W.grownBy W' v.ownBlock):∃b:List DF,b.Perm a/\b.map DF.b=bs'/\Ay B W' (C9 v b):=by
 obtain⟨b,c,d⟩:=Ni e rfl;refine⟨b,c,d,?_⟩;unfold C9 at h⊢;have i:=Ay.turn (r':=⟨v,46,3,a.length,bs'.flatMap BAt.cells⟩) h rfl f g;rw[d,c.length_eq];exact Ay.perm i (cC _ (c.symm.flatMap_right _))
theorem XD(t:Value)(w:World):Calls prog 73 #[.nilIface,t] w fun e w'=>e=aJ (.bool false)/\w'=w:=by
 go_enter func73,ntmps73;go_wp2;go_ret;exact⟨rfl,rfl⟩
def Tp(bs:List PBlock)(w:World)(e:Ending)(w':World):Prop:=∃a n c d,e=aJ (aZ #[bA #[aE a n c],bA #[.int .i64 0,.int .i64 0]])/\BH d=AO bs/\Ay w.heap.size w' (C9 (aE a n c) d)/\(∀b∈d,b.sm)/\d.length<=1000000/\Below w.heap.size w w'
theorem Tq{b:DF}(h:W0.ownsRow B 115 2 b.v b.ys.length ((b.ys.map Dk.l).flatMap LAt.cells))(d:0<W0.heap.size)(e:Wc B b W W'):∃q,W.grownBy W' (aC q)/\q<W0.heap.size:=by
 obtain⟨_,_,_,_,a⟩:=e;cases c:b.v.ownBlock with
 | none=>rw[c]at a;exact⟨0,⟨a.os,a.tape,a.output,a.size,fun i f _=>a.block i f (by simp)⟩,d⟩
 | some q=>rw[c]at a;exact⟨q,a,(h.lt q c).2⟩
theorem Kq{o:Option Nat}(h:Below B w W)(a:B<=W.heap.size)(b:W.grownBy W' o)(c:∀q,o=aC q->B<=q):Below B w W':=h.grown b a (fun k d=>c k d)
def Vn(B:Nat)(v:Value)(c:List DF)(w1:World)(i:Value)(W:World):Prop:=∃a D T,i=.int .i64 (a.length:Int)/\c=D++T/\a.length=D.length/\BH a=(BH D).map Im/\(∀b∈a,b.sm)/\Ay B W (C9 v (a++T))/\Below w1.heap.size w1 W/\True
theorem Hn(s:ByteArray){bs:List PBlock}(bv:s.size<=4000000)(ap:BZ w)(R:AU s.data.toList=.good bs):Calls prog 21 #[aH s] w fun e w'=>Tp bs w e w':=by
 have aq:=CF R;have b0:Below w.heap.size w ((w.alloc (aD #[aE aB 0 0] 25)).alloc (aD #[.int .i64 0,.int .i64 0] 38)):=((aN w.heap.size w).alloc (aM _) _).alloc (by simp) _;have bw:((w.alloc (aD #[aE aB 0 0] 25)).alloc (aD #[.int .i64 0,.int .i64 0] 38)).heap.size=w.heap.size+2:=by simp
 have z0:((w.alloc (aD #[aE aB 0 0] 25)).alloc (aD #[.int .i64 0,.int .i64 0] 38)).heap[w.heap.size]?=aC (aD #[aE aB 0 0] 25 (0,0)):=by
  have bx:=(aN (w.alloc (aD #[aE aB 0 0] 25)).heap.size (w.alloc (aD #[aE aB 0 0] 25))).alloc (aM _) (aD #[.int .i64 0,.int .i64 0] 38);rw[bx.block w.heap.size (by simp)];exact Ai w _
 have bz:((w.alloc (aD #[aE aB 0 0] 25)).alloc (aD #[.int .i64 0,.int .i64 0] 38)).heap[w.heap.size+1]?=aC (aD #[.int .i64 0,.int .i64 0] 38 (0,0)):=by
  have:=Ai (w.alloc (aD #[aE aB 0 0] 25)) (aD #[.int .i64 0,.int .i64 0] 38);rw[cV]at this;exact this
 have S:=JF s bv (ap.V b0);rw[R]at S;clear ap R;generalize ar:(w.alloc (aD #[aE aB 0 0] 25)).alloc (aD #[.int .i64 0,.int .i64 0] 38)=w1 at *;go_enter func21,ntmps21;go_wp2_with (go_at_call 72;(try rw[ar]);refine S.mono ?_)
 rintro e w2 ⟨U,a,n,c,p,rfl,au,V,av,cu⟩;have b1:=fun t W=>XD t W
 have r:=(aN w2.heap.size w2).alloc (aM _) (aD #[.int .i64 0,.int .i64 0] 110);have aw:=U.trans (r.mono U.size);have ax:=Ay.V V r;obtain⟨a',cv,b2⟩:=Nd V;cases b2
 have ay:=Ab (show Vn w1.heap.size (aE a p.length c) p w1 (.int .i64 0) (w2.alloc (aD #[.int .i64 0,.int .i64 0] 110)) from⟨[],[],p,rfl,rfl,rfl,rfl,by simp,ax,aw,trivial⟩);have b3:=Ab av;have az:=Ab aq;have a0:=Ab au;have b4:=Ab b0;clear S V ax av aq au b0 U r aw ar;generalize a1:p.length=f at *;have b5:=Ab a1;clear a1;go_wp2_with (go_at_call 73;refine(b1 _ _).mono ?_;rintro e w3 ⟨rfl,rfl⟩)
 go_loopw [22] (fun i wr=>Vn w1.heap.size (aE a f c) p w1 i wr) (fun i _=>f-(intOf i).toNat)
 case atStart=>exact ay.out
 case round =>
  clear ay;obtain⟨d,D,T,rfl,l,H,I,J,h,z,_⟩:=hrel;have u:d.length+T.length=f:=by rw[H,<-aG,<-l];exact b5.out
  by_cases cw:d.length<f
  ·have b6:((d.length:Int)<(f:Int)):=by omega
   match T,u,l,h with
   | [],u,_,_=>simp at u;omega
   | b::T,u,l,h =>
    have X:b∈p:=by rw[l];simp
    have a2:=b3.out b X;have a3:BA (rulesOf b.aa) (BU b.ys):=az.out.2 b.b.I (by rw[<-a0.out];unfold BH;exact bL (bL X));have A:=(JD h).1;obtain⟨m,o,a4⟩:=IS (Ez h (b:=b) (by simp));have b7:(d++b::T).length=f:=by rw[aG];simpa using u
    rw[aY,b7,dd,aU]at A;obtain⟨g,off,b8,a5,a6,Y⟩:=A.block;cases b8
    rw[aY]at a5 a6 Y;rw[show b.b.v=aE m b.ys.length o from a4]at Y;have cx:(0:Int)<=(d.length:Int):=by omega
    have r:=(aN wr.heap.size wr).alloc (aM _) (aD #[aH b.b.aa,aH b.b.name,aE m b.ys.length o] 46);have Z:=Ai wr (aD #[aH b.b.aa,aH b.b.name,aE m b.ys.length o] 46);have aa:=Aa Z 0;have ab:=Aa Z 2;simp only[bE,bB,bH]at aa ab;have K:=Ay.V h r;have ac:=z.size;have b9:0<(wr.alloc (aD #[aH b.b.aa,aH b.b.name,aE m b.ys.length o] 46)).heap.size:=by simp
    have a7:(wr.alloc (aD #[aH b.b.aa,aH b.b.name,aE m b.ys.length o] 46)).ownsRow w1.heap.size 115 2 b.v b.ys.length ((b.ys.map Dk.l).flatMap LAt.cells):=Ay.head (Ez K (b:=b) (by simp));have a8:=Ez K (b:=b) (by simp);have a9:=z.trans (r.mono ac);have ba:=Ab K;have ad:=Ab a7;have bb:=Ab a8;have bc:=Ab a3;have ae:=Ab a2;have af:=Ab a9;have bd:=Ab l;have M:=Ab I;have N:=Ab J;have ca:=Ab a4;have cb:=Ab H;clear H;clear K a7 a8 a3 a2 a9 h z r l I J A X;generalize C:d.length=be at *;generalize cc:wr.alloc (aD #[aH b.b.aa,aH b.b.name,aE m b.ys.length o] 46)=W0 at *;go_upto_region 8 with fail
    (try rw[cc])
    refine Z4 (Wc w1.heap.size b) aa ab (fun W cy vr L E cd ce cf cg=>by
     have:=Vm (b:=b) bb.out ae.out E cd ce cf cg;rw[ca.out]at this;exact this) (fun W W' F=>Tq ad.out b9 F) (by kernel_rfl) (by kernel_rfl) ?_
    intro v a' W1 W2 bf ag F;simp only[An,CY,List.setIfInBounds_toArray,List.set_cons_zero,List.set_cons_succ]at bf;subst bf;obtain⟨b',ch,ci,bg⟩:=Q7 (ba.out.V ag) F bc.out ae.out;have bh:Below w1.heap.size w1 W2:=by
     obtain⟨_,_,_,_,B⟩:=F;have bi:=af.out.trans (ag.mono af.out.size);exact Kq bi bi.size B (fun q ah=>(ad.out.lt q ah).1)
    have bj:=Ab (show Vn w1.heap.size (aE (aC ⟨g,off,aB⟩) f c) p w1 (.int .i64 ((d++[b']).length:Int)) W2 from⟨d++[b'],D++[b],T,rfl,by rw[bd.out];simp,by rw[aG,aG,C,cb.out];rfl,by
     rw[Hm,Hm,dd,M.out,aU,bZ];exact congrArg (fun cj=>(BH D).map Im++[cj]) ch,fun x k=>by
     rcases dc.1 k with k|k
     ·exact N.out x k
     ·rw[bV.1 k];exact ci,by rw[cB];exact bg,bh,trivial⟩)
    have bk:(d++[b']).length=be+1:=by rw[aG,C];rfl
    rw[bk]at bj;clear ba ad bb bc ae af bd M N F bg bh ag aa ab a5 a6 Y Z bk;go_wp2;go_roundw;case rel=>exact bj.out
    case measure=>simp[intOf];omega
  ·obtain rfl:T=[]:=List.length_eq_zero_iff.1 (by omega);have b6:¬((d.length:Int)<(f:Int)):=by omega
   rw[de]at h l;subst l;have bl:d.length=f:=by simpa using u
   have A:wr.ownsRow w1.heap.size 46 3 (aE a f c) (d.map DF.b).length ((d.map DF.b).flatMap BAt.cells):=by rw[aY];exact Ay.head h
   have bm:=Nh A (fun x k=>by
    obtain⟨b,E,rfl⟩:=bY.1 k;obtain⟨m,o,e⟩:=IS (Ez h E);exact⟨m,_,o,e⟩) (by rw[aY];omega)
   have ai:=Ab h;have M:=Ab I;have N:=Ab J;have ck:=Ab z;have cl:=Ab bl;have ac:=z.size;clear h I J z A H u;generalize C:d.length=be at *;have cm:=Ab C;clear C bl;go_wp2_with (go_at_call 76;refine bm.mono ?_)
   first|rintro e aj rfl cn ak O al B|rintro e aj ⟨rfl,cn,ak,O,al,B⟩
   rw[<-bw]at O;obtain⟨am,P,bn,bo⟩:=Tn ai.out ak O B;have Q:Below w1.heap.size w1 aj:=Kq ck.out ac B (fun q ah=>(dt (Ay.head ai.out) q ah).1);have bp:BH am=AO bs:=by
    refine NG az.out ?_ (fun i j co x y k an=>?_)
    ·have h1:(BH am).Perm (BH d):=(P.map DF.b).map BAt.I;rw[M.out,a0.out]at h1;exact h1
    ·unfold BH at k an;rw[bn,cY]at k an;obtain⟨cp,cq,rfl⟩:=aS.1 k;obtain⟨cr,cs,rfl⟩:=aS.1 an;exact al i j co cp cr cq cs
   have ao:=(Q.block w.heap.size (by omega)).trans z0;have G:=(Q.block (w.heap.size+1) (by omega)).trans bz;have bq:=Aa ao 0;have br:=Aa G 0;have bt:=Aa G 1;have cz:=Ac ao 0;have c0:=Ac G 0;have c1:=Ac G 1;simp only[bE,bB,bH]at bq br bt;have bu:=b4.out.trans (Q.mono (by omega));have ct:=Ab (show Tp bs w (aJ (aZ #[bA #[aE a f c],bA #[.int .i64 0,.int .i64 0]])) (((aj.setCell ⟨w.heap.size,0,aB⟩ (aE a f c)).setCell ⟨w.heap.size+1,0,aB⟩ (.int .i64 0)).setCell ⟨w.heap.size+1,1,aB⟩ (.int .i64 0)) from⟨a,f,c,am,rfl,bp,((((bo.setCell ⟨w.heap.size,0,aB⟩ (by simp only;omega) _).setCell ⟨w.heap.size+1,0,aB⟩ (by simp only;omega) _).setCell ⟨w.heap.size+1,1,aB⟩ (by simp only;omega) _)).mono (by omega),fun b E=>N.out b (P.mem_iff.1 E),by rw[P.length_eq,cm.out];have:=cl.out;omega,Ad (Ad (Ad bu ⟨w.heap.size,0,aB⟩ (aM _) _) ⟨w.heap.size+1,0,aB⟩ (by simp only;omega) _) ⟨w.heap.size+1,1,aB⟩ (by simp only;omega) _⟩);clear bm ak O al B P bn bo bp bu Q ao G ai;go_wp2;exact bodyPost_ret (v:=aZ #[bA #[aE a f c],bA #[.int .i64 0,.int .i64 0]]) (by simp[results,results21,go_sem,bq,br,bt]) rfl ct.out
section
open Go.Extern.Stop
open Go.Stop
open Go.Extern
def Ho(w:World):Prop:=w.cell? ⟨0,0,aB⟩=aC (.iface 256 (bA #[aA (aC ⟨10,106,aB⟩)]))
theorem Ae8(t:Addr)(w:World):(ReflectliteValue.unpack (.iface 112 (aA (aC t)))).run prog w
  = .ok (bA #[aA (aC ⟨10,112,aB⟩),aA (aC ⟨w.heap.size,0,aB⟩),.int .u64 150]) (w.alloc (aD #[aA (aC t)] 112)):=by kernel_rfl
theorem Ad0(a : Addr)(w : World): (ReflectliteValue.methodAny (ReflectliteValue.valueError "reflectlite.Value.Type" 0) (fun t _ _ _ => ReflectliteType.toType t) #[bA #[aA (aC ⟨10, 112, aB⟩), aA (aC a), .int .u64 150]]).run prog w
  = .ok (.iface 256 (bA #[aA (aC ⟨10,112,aB⟩)])) w:=by kernel_rfl
theorem Ab1(h : Value)(w : World): (cP 493 256 (bA #[h]) "Kind").run prog w = .ok (312, h) w := by kernel_rfl
theorem Ab2(w:World):((ReflectliteType.abiMethod fun t=>(fun a:Nat=>du dn (a:Int)) <$> Rtype.kind t) #[aA (aC ⟨10,112,aB⟩)]).run prog w=.ok (.int .u8 22) w:=by kernel_rfl
theorem Ab3(w:World):((ReflectliteType.abiMethod fun t=>(fun a:Nat=>du dn (a:Int)) <$> Rtype.kind t) #[aA (aC ⟨10,110,aB⟩)]).run prog w=.ok (.int .u8 25) w:=by kernel_rfl
theorem rlm(z:Sem Value)(f:TypeId->Addr->Nat->Nat->Sem Value)(v:Value):
  ReflectliteValue.method z f #[v]=(do match <-ReflectliteValue.parts v with|none=>z|some (t,a,b)=>f t a b (b%32)):=rfl
theorem Wd(a:Addr)(w:World):(ReflectliteValue.parts (bA #[aA (aC ⟨10,112,aB⟩),aA (aC a),.int .u64 150])).run prog w=.ok (aC (112,a,150)) w:=by kernel_rfl
theorem Ab4(a p:Addr)(W:World)(b:W.cell? a=aC (aA (aC p))):
  (ReflectliteValue.method (ReflectliteValue.valueError "reflectlite.Value.IsNil" 0) ReflectliteValue.isNil #[bA #[aA (aC ⟨10, 112, aB⟩), aA (aC a), .int .u64 150]]).run prog W = .ok (.bool false) W := by
 rw[rlm];simp only[cO,Wd,aP];simp[ReflectliteValue.isNil,loadVar,isAgg,underlying,underlying112,b,aP]
theorem Ab5(h : Value)(w : World): (cP 493 256 (bA #[h]) "Elem").run prog w = .ok (324, bA #[h]) w := by kernel_rfl
theorem Ab6(h : Value)(w : World): (cP 493 256 (bA #[h]) "Implements").run prog w = .ok (325, bA #[h]) w := by kernel_rfl
theorem XE(h : Value)(w : World): (cP 493 256 (bA #[h]) "AssignableTo").run prog w = .ok (322, bA #[h]) w := by kernel_rfl
theorem Ad1(w:World):(ReflectliteType.method ReflectliteType.elem #[bA #[aA (aC ⟨10,112,aB⟩)]]).run prog w=.ok (.iface 256 (bA #[aA (aC ⟨10,110,aB⟩)])) w:=by kernel_rfl
theorem Ad2(w : World): (ReflectliteType.relation "Implements" ReflectliteType.implements_ #[bA #[aA (aC ⟨10, 110, aB⟩)], .iface 256 (bA #[aA (aC ⟨10, 106, aB⟩)])]).run prog w = .ok (.bool true) w := by kernel_rfl
theorem Z5(v:Value)(w:World):(ReflectliteType.typeOf #[.iface 110 v]).run prog w=.ok (.iface 256 (bA #[aA (aC ⟨10,110,aB⟩)])) w:=by kernel_rfl
theorem Z6(w : World): (ReflectliteType.relation "AssignableTo" ReflectliteType.assignableTo #[bA #[aA (aC ⟨10, 110, aB⟩)], .iface 256 (bA #[aA (aC ⟨10, 110, aB⟩)])]).run prog w = .ok (.bool true) w := by kernel_rfl
theorem Ad3(x y:Int)(w:World):(ReflectliteValue.unpack (.iface 110 (bA #[.int .i64 x,.int .i64 y]))).run prog w
  = .ok (bA #[aA (aC ⟨10,110,aB⟩),aA (aC ⟨w.heap.size,0,aB⟩),.int .u64 153]) (w.alloc (aD #[.int .i64 x,.int .i64 y] 110)):=by kernel_rfl
theorem Z7(w:World):(Rtype.elem? 112).run prog w=.ok (aC 110) w:=by kernel_rfl
theorem Agb(p:Addr)(w:World):(ReflectliteValue.mk 110 p ReflectliteValue.flagAddr).run prog w=.ok (bA #[aA (aC ⟨10,110,aB⟩),aA (aC p),.int .u64 409]) w:=by kernel_rfl
theorem Ab7(a p:Addr)(W:World)(b:W.cell? a=aC (aA (aC p))):
  (ReflectliteValue.method (ReflectliteValue.valueError "reflectlite.Value.Elem" 0) ReflectliteValue.elem #[bA #[aA (aC ⟨10, 112, aB⟩), aA (aC a), .int .u64 150]]).run prog W
   = .ok (bA #[aA (aC ⟨10,110,aB⟩),aA (aC p),.int .u64 409]) W:=by
 rw[rlm];simp only[cO,Wd,aP];simp[ReflectliteValue.elem,loadVar,isAgg,underlying,underlying112,b,aP,Z7,Agb]
end
section
open Go.Extern.Stop
open Go.Stop
open Go.Extern
theorem Z8(a:Addr)(w:World):(ReflectliteValue.parts (bA #[aA (aC ⟨10,110,aB⟩),aA (aC a),.int .u64 409])).run prog w=.ok (aC (110,a,409)) w:=by kernel_rfl
theorem Z9(a:Addr)(w:World):(ReflectliteValue.parts (bA #[aA (aC ⟨10,110,aB⟩),aA (aC a),.int .u64 153])).run prog w=.ok (aC (110,a,153)) w:=by kernel_rfl
theorem ZA(w:World):(Rtype.directlyAssignable 110 110).run prog w=.ok true w:=by kernel_rfl
theorem ZB:(aX.info? 110).map (·.size)=aC 2:=by kernel_rfl
theorem Ae9(q b:Nat)(x y:Int)(o0 o1:Value)(W:World)(i:b=W.heap.size)(a:W.heap[q]?=aC (aD #[o0,o1] 110 (0,0))):
  (ReflectliteValue.set #[bA #[aA (aC ⟨10,110,aB⟩),aA (aC ⟨q,0,aB⟩),.int .u64 409],bA #[aA (aC ⟨10,110,aB⟩),aA (aC ⟨b,0,aB⟩),.int .u64 153]]).run prog (W.alloc (aD #[.int .i64 x,.int .i64 y] 110))
   = .ok (aZ #[]) ((W.alloc (aD #[.int .i64 x,.int .i64 y] 110)).setCells q 0 [.int .i64 x,.int .i64 y]):=by
 subst i;have k:q<W.heap.size:=by
  rcases bC q W.heap.size with h|h
  ·exact h
  ·rw[aO h]at a;cases a
 have c:(W.alloc (aD #[.int .i64 x,.int .i64 y] 110)).heap[q]?=aC (aD #[o0,o1] 110 (0,0)):=by
  rw[((aN W.heap.size W).alloc (aM _) _).block q k];exact a
 have e:∃d,aX.underlying 110=aC d/\(match d with | .struct _ | .array _ _=>true|_=>false)=true:=⟨_,underlying110,rfl⟩
 obtain⟨d,e,hd⟩:=e;have L:=run_loadVar_row (P:=prog) _ _ 110 110 #[.int .i64 x,.int .i64 y] (0,0) d (Ai W _) e (by cases d <;> first|rfl|exact absurd hd (by simp)) ZB
 have l:(W.alloc (aD #[.int .i64 x,.int .i64 y] 110)).there q 0 2:=by
  intro j m;have c0:=Aa c j
  match j,m with
  | 0,_=>exact⟨by rw[c0];rfl,by simp[di,c]⟩
  | 1,_=>exact⟨by rw[c0];rfl,by simp[di,c]⟩
 have S:=run_storeVar_mid (P:=prog) _ q 0 110 #[.int .i64 x,.int .i64 y] l ZB (by simp[Value.oneCell'])
 delta ReflectliteValue.set
 have M:∀(v x:Value) (f:Value->Value->Sem Value) (g:Array Value->Sem Value),ReflectliteValue.set.match_3 (motive:=fun _=>Sem Value) #[v,x] f g=f v x:=fun _ _ _ _=>rfl
 rw[M];simp only[cO,Z8,Z9,aP];simp[ReflectliteValue.flagAddr,L,aP,ZA,S]
end
section
open Go.Extern.Stop
open Go.Stop
open Go.Extern
theorem XF(q:Nat)(x y:Int)(o0 o1:Value)(w:World)(a:Ho w)(b:w.heap[q]?=aC (aD #[o0,o1] 110 (0,0))):
  Calls prog 73 #[.iface 110 (bA #[.int .i64 x,.int .i64 y]),.iface 112 (aA (aC ⟨q,0,aB⟩))] w fun e w'=>e=aJ (.bool true)/\w'=((((w.alloc (aD #[aA (aC ⟨q,0,aB⟩)] 112)).alloc (aD #[aA (aC ⟨10,112,aB⟩),aA (aC ⟨w.heap.size,0,aB⟩),.int .u64 150] 203)).alloc (aD #[aA (aC ⟨10,112,aB⟩),aA (aC ⟨w.heap.size,0,aB⟩),.int .u64 150] 203)).alloc (aD #[.int .i64 x,.int .i64 y] 110)).setCells q 0 [.int .i64 x,.int .i64 y]:=by
 have k:=aL (P:=prog) (f:=141) (e:=(fun args=>ReflectliteValue.unpack (args.getD 0 (aZ #[])))) func141 (by kernel_rfl) (by kernel_rfl) (by kernel_rfl) (by kernel_rfl);have l := aL (P := prog) (f := 142) (e := (ReflectliteValue.methodAny (ReflectliteValue.valueError "reflectlite.Value.Type" 0) (fun t _ _ _ => ReflectliteType.toType t))) func142 (by kernel_rfl) (by kernel_rfl) (by kernel_rfl) (by kernel_rfl);have m := aL (P := prog) (f := 143) (e := (ReflectliteValue.method (ReflectliteValue.valueError "reflectlite.Value.IsNil" 0) ReflectliteValue.isNil)) func143 (by kernel_rfl) (by kernel_rfl) (by kernel_rfl) (by kernel_rfl);have n:=aL (P:=prog) (f:=312) (e:=(ReflectliteType.abiMethod fun t=>do pure (.int .u8 (<-Rtype.kind t)))) func312 (by kernel_rfl) (by kernel_rfl) (by kernel_rfl) (by kernel_rfl);have o:=aL (P:=prog) (f:=324) (e:=(ReflectliteType.method ReflectliteType.elem)) func324 (by kernel_rfl) (by kernel_rfl) (by kernel_rfl) (by kernel_rfl);have p := aL (P := prog) (f := 325) (e := (ReflectliteType.relation "Implements" ReflectliteType.implements_)) func325 (by kernel_rfl) (by kernel_rfl) (by kernel_rfl) (by kernel_rfl);have r:=aL (P:=prog) (f:=189) (e:=ReflectliteType.typeOf) func189 (by kernel_rfl) (by kernel_rfl) (by kernel_rfl) (by kernel_rfl);have s := aL (P := prog) (f := 322) (e := (ReflectliteType.relation "AssignableTo" ReflectliteType.assignableTo)) func322 (by kernel_rfl) (by kernel_rfl) (by kernel_rfl) (by kernel_rfl);have u := aL (P := prog) (f := 190) (e := (ReflectliteValue.method (ReflectliteValue.valueError "reflectlite.Value.Elem" 0) ReflectliteValue.elem)) func190 (by kernel_rfl) (by kernel_rfl) (by kernel_rfl) (by kernel_rfl);have v:=aL (P:=prog) (f:=191) (e:=ReflectliteValue.set) func191 (by kernel_rfl) (by kernel_rfl) (by kernel_rfl) (by kernel_rfl);have z:=Z5;have A:=XE;have B:=Z6;have g3:=Ad3;have g4:=Ae8;have C:=Ad0;have D:=Ab1;have E:=Ab5;have F:=Ab6;have G:=Ab2;have H:=Ab3;have I:=Ad1;have J:=Ad2;have d:q<w.heap.size:=by
  rcases bC q w.heap.size with h|h
  ·exact h
  ·rw[aO h]at b;cases b
 unfold Ho at a;have g:0<w.heap.size:=by
  rcases bC 0 w.heap.size with h|h
  ·exact h
  ·simp[dq,aO h]at a
 have i:=(aN w.heap.size w).alloc (aM _) (aD #[aA (aC ⟨q,0,aB⟩)] 112);have c:=i.alloc (by simp) (aD #[aA (aC ⟨10,112,aB⟩),aA (aC ⟨w.heap.size,0,aB⟩),.int .u64 150] 203);have j:=c.alloc (by simp;omega) (aD #[aA (aC ⟨10,112,aB⟩),aA (aC ⟨w.heap.size,0,aB⟩),.int .u64 150] 203);have K:=Ab4 ⟨w.heap.size,0,aB⟩ ⟨q,0,aB⟩ ((w.alloc (aD #[aA (aC ⟨q,0,aB⟩)] 112)).alloc (aD #[aA (aC ⟨10,112,aB⟩),aA (aC ⟨w.heap.size,0,aB⟩),.int .u64 150] 203)) (by simp);have L:((w.alloc (aD #[aA (aC ⟨q,0,aB⟩)] 112)).alloc (aD #[aA (aC ⟨10,112,aB⟩),aA (aC ⟨w.heap.size,0,aB⟩),.int .u64 150] 203)).cell? ⟨0,0,aB⟩=aC (.iface 256 (bA #[aA (aC ⟨10,106,aB⟩)])):=by
  rw[cN (c.block _ g)];exact a
 have M:=Ab7 ⟨w.heap.size,0,aB⟩ ⟨q,0,aB⟩ (((w.alloc (aD #[aA (aC ⟨q,0,aB⟩)] 112)).alloc (aD #[aA (aC ⟨10,112,aB⟩),aA (aC ⟨w.heap.size,0,aB⟩),.int .u64 150] 203)).alloc (aD #[aA (aC ⟨10,112,aB⟩),aA (aC ⟨w.heap.size,0,aB⟩),.int .u64 150] 203)) (by rw[World.cell?_alloc_lt _ _ ⟨w.heap.size,0,aB⟩ (by simp;omega)];simp);have N:=Ae9 q (w.heap.size+1+1+1) x y o0 o1 (((w.alloc (aD #[aA (aC ⟨q,0,aB⟩)] 112)).alloc (aD #[aA (aC ⟨10,112,aB⟩),aA (aC ⟨w.heap.size,0,aB⟩),.int .u64 150] 203)).alloc (aD #[aA (aC ⟨10,112,aB⟩),aA (aC ⟨w.heap.size,0,aB⟩),.int .u64 150] 203)) (by simp) (by rw[j.block q d];exact b);clear i c j b a g d;go_enter func73,ntmps73;go_wp2;refine wp_loop_rounds 1 ?_;rw[rounds_succ];go_wp2;go_ret;exact⟨rfl,rfl⟩
end
variable {w':World}{m:Nat}
theorem Ho.V(h:Ho w)(b:Below B w w')(c:w.heap.size<=B):Ho w':=by
 have d:0<w.heap.size:=by
  rcases bC 0 w.heap.size with a|a
  ·exact a
  ·unfold Ho at h;simp[dq,aO a]at h
 unfold Ho at h⊢;rw[cN (b.block _ (cW d c))];exact h
theorem Ab8{o0 o1 x y:Value}{t:TypeId}(h:W.heap[q]?=aC (aD #[o0,o1] t (0,0))):(W.setCells q 0 [x,y]).heap[q]?=aC (aD #[x,y] t (0,0))/\W.grownBy (W.setCells q 0 [x,y]) (aC q):=by
 have b:=dp W q 0 #[o0,o1] t (0,0) x h;have h1:=setRow_heap W q #[o0,o1] (#[o0,o1].setIfInBounds 0 x) t _ h;have c:=dp (W.setRow q (#[o0,o1].setIfInBounds 0 x)) q 1 _ t (0,0) y h1;have d:=setRow_heap (W.setRow q (#[o0,o1].setIfInBounds 0 x)) q _ ((#[o0,o1].setIfInBounds 0 x).setIfInBounds 1 y) t _ h1;have f:W.setCells q 0 [x,y]=(W.setRow q (#[o0,o1].setIfInBounds 0 x)).setRow q ((#[o0,o1].setIfInBounds 0 x).setIfInBounds 1 y):=by
  show (W.setCell ⟨q,0,aB⟩ x).setCell ⟨q,1,aB⟩ y=_
  rw[b,c]
 rw[f];exact⟨by rw[d];rfl,⟨rfl,rfl,rfl,by simp,fun k _ a=>by rw[setRow_other _ q k _ (fun e=>a (by rw[e])),setRow_other _ q k _ (fun e=>a (by rw[e]))]⟩⟩
def Ab9(q:Nat)(x y:Int)(w:World)(e:Ending)(w':World):Prop:=e=aJ (.bool true)/\w'.heap[q]?=aC (aD #[.int .i64 x,.int .i64 y] 110 (0,0))/\w.grownBy w' (aC q)
theorem Tr(q:Nat)(x y:Int)(o0 o1:Value)(w:World)(g:Ho w)(d:w.heap[q]?=aC (aD #[o0,o1] 110 (0,0))):Calls prog 73 #[.iface 110 (bA #[.int .i64 x,.int .i64 y]),.iface 112 (aA (aC ⟨q,0,aB⟩))] w fun e w'=>Ab9 q x y w e w':=by
 have i:q<w.heap.size:=by
  rcases bC q w.heap.size with h|h
  ·exact h
  ·rw[aO h]at d;cases d
 refine(XF q x y o0 o1 w g d).mono ?_;rintro e w' ⟨rfl,rfl⟩;have a:∀(X Y b T:Obj),Below w.heap.size w ((((w.alloc X).alloc Y).alloc b).alloc T):=fun X Y b T=>((((aN w.heap.size w).alloc (aM _) X).alloc (by simp) Y).alloc (by simp;omega) b).alloc (by simp;omega) T
 have j:=fun X Y b T=>(a X Y b T).block q i
 obtain⟨l,c⟩:=Ab8 (x:=.int .i64 x) (y:=.int .i64 y) ((j _ _ _ _).trans d);refine⟨rfl,l,⟨c.os.trans (a _ _ _ _).os,c.tape.trans (a _ _ _ _).tape,c.output.trans (a _ _ _ _).output,bD (a _ _ _ _).size c.size,fun k f m=>(c.block k (cW f (a _ _ _ _).size) m).trans ((a _ _ _ _).block k f)⟩⟩
def We(m:Nat)(c:Int)(w:World)(e:Ending)(w':World):Prop:=e=aJ (aZ #[bA #[aE aB 0 0],bA #[.int .i64 (m:Int),.int .i64 c]])/\Below w.heap.size w w'
theorem I5(s:ByteArray){c:Int}(F:s.size<=4000000)(k:BZ w)(l:Ho w)(n:AU s.data.toList=.bad m c):Calls prog 21 #[aH s] w fun e w'=>We m c w e w':=by
 have b0:Below w.heap.size w ((w.alloc (aD #[aE aB 0 0] 25)).alloc (aD #[.int .i64 0,.int .i64 0] 38)):=((aN w.heap.size w).alloc (aM _) _).alloc (by simp) _;have L:((w.alloc (aD #[aE aB 0 0] 25)).alloc (aD #[.int .i64 0,.int .i64 0] 38)).heap.size=w.heap.size+2:=by simp
 have z0:((w.alloc (aD #[aE aB 0 0] 25)).alloc (aD #[.int .i64 0,.int .i64 0] 38)).heap[w.heap.size]?=aC (aD #[aE aB 0 0] 25 (0,0)):=by
  have G:=(aN (w.alloc (aD #[aE aB 0 0] 25)).heap.size (w.alloc (aD #[aE aB 0 0] 25))).alloc (aM _) (aD #[.int .i64 0,.int .i64 0] 38);rw[G.block w.heap.size (by simp)];exact Ai w _
 have o:((w.alloc (aD #[aE aB 0 0] 25)).alloc (aD #[.int .i64 0,.int .i64 0] 38)).heap[w.heap.size+1]?=aC (aD #[.int .i64 0,.int .i64 0] 38 (0,0)):=by
  have:=Ai (w.alloc (aD #[aE aB 0 0] 25)) (aD #[.int .i64 0,.int .i64 0] 38);rw[cV]at this;exact this
 have f:=JF s F (k.V b0);have p:=l.V b0 (aM _);rw[n]at f;clear k n l;generalize r:(w.alloc (aD #[aE aB 0 0] 25)).alloc (aD #[.int .i64 0,.int .i64 0] 38)=w1 at *;go_enter func21,ntmps21;go_wp2_with (go_at_call 72;(try rw[r]);refine f.mono ?_)
 rintro e w2 ⟨b,rfl⟩;have t:=(aN w2.heap.size w2).alloc (aM _) (aD #[.int .i64 0,.int .i64 0] 110);have g:=b.trans (t.mono b.size);have u:=p.V g (aM _);have x:=Tr w2.heap.size (m:Int) c (.int .i64 0) (.int .i64 0) (w2.alloc (aD #[.int .i64 0,.int .i64 0] 110)) u (Ai w2 _);have h:=Ab g;have y:=Ab b0;have H:=b.size;clear f b0 b t g r p u;unfold Ja;go_wp2_with (go_at_call 73;refine x.mono ?_)
 rintro e z ⟨rfl,i,A⟩;have d:Below w1.heap.size w1 z:=Kq h.out h.out.size A (fun q I=>by cases I;exact H);have j:=(d.block w.heap.size (by omega)).trans z0;have a:=(d.block (w.heap.size+1) (by omega)).trans o;have B:=Aa j 0;have C:=Aa a 0;have D:=Aa a 1;have M:=Ac j 0;have N:=Ac a 0;have O:=Ac a 1;have t0:=Aa i 0;have J:=Aa i 1;simp only[bE,bB,bH]at B C D t0 J;have E:=y.out.trans (d.mono (by omega));have K:=Ab (show We m c w (aJ (aZ #[bA #[aE aB 0 0],bA #[.int .i64 (m:Int),.int .i64 c]])) (((z.setCell ⟨w.heap.size,0,aB⟩ (aE aB 0 0)).setCell ⟨w.heap.size+1,0,aB⟩ (.int .i64 (m:Int))).setCell ⟨w.heap.size+1,1,aB⟩ (.int .i64 c)).drew from⟨rfl,cS (Ad (Ad (Ad E ⟨w.heap.size,0,aB⟩ (aM _) _) ⟨w.heap.size+1,0,aB⟩ (by simp only;omega) _) ⟨w.heap.size+1,1,aB⟩ (by simp only;omega) _)⟩);clear j a z0 o x i A h y E d;go_upto_region 4 with fail
 go_region
 all_goals (try go_wp2)
 all_goals exact bodyPost_ret (v:=aZ #[bA #[aE aB 0 0],bA #[.int .i64 (m:Int),.int .i64 c]]) (by simp[results,results21,go_sem,B,C,D]) rfl K.out
