import Derived.Test.YtpdahhnjhggocaaGreatDoorMu17
import Derived.Test.YtpdahhnjhggocaaGreatDoorMu18
import Derived.Lib.OwnKind
open Go.Proofs.Tryz
open Go.Value renaming string->aA,slice->aC,pointer->aD,agg->bS,tuple->bY
open Go.World renaming block_lt_of_cell?->aB,alloc->bD
open Go.Obj renaming cells->aE,cells->bK
open List renaming length_append->aF,getElem?_cons_zero->aL,getElem?_toArray->aO,getElem?_cons_succ->aP,length_cons->aS,mem_map_of_mem->aT,length_map->aV,flatMap_append->aW,length_eq_zero_iff->aZ,length_nil->bx,take_append_drop->bA,length_singleton->bB,length_filter_le->bC,take_succ_cons->bF,map_eq_nil_iff->bG,mem_map->bI,mem_filter->bN,take_zero->bR,filter_eq_self->bW,take_add_one->bZ,flatMap_cons->b1,take_length->b3
open Option renaming some->aG,none->aH
open Go.Lib renaming cell_of_heap->aI,byteCells->aJ,byteCells_length->aQ,OthersKept->aU,strCells->bJ,BuilderAtF->bT,frozen_of_heap->b2,ownsRowF_kind->b4
open Nat renaming le_trans->aK,le_refl->aM,mul_le_mul_right->bE,add_le_add_left->bX,lt_or_ge->b6
open Go.RowKit.Below renaming refl->aN
open Go.Ending renaming returned->aR
open Go.Lib.OthersKept renaming refl->aX
open Go.Proofs.Tryz renaming prog->aY
open Go.ByteArray renaming toList_eq->bz
open Option.some renaming inj->bH
open Go.Result renaming andThen->bL
open Go.Oper renaming upon_value->bM
open Go.Lib.BuilderAtF renaming put->bO
open Go.Builtin renaming unsafeSliceData_->bP,unsafeString_->bU
open Array renaming getElem?_eq_some_iff->bQ,getElem?_eq_none->bV
open Go.Extern.AbiNoEscape renaming same->b5
namespace Go.Proofs.YtpdahhnjhggocaaGreatDoor
open Go.RowKit
set_option maxHeartbeats 16000000
set_option maxRecDepth 100000
abbrev Bld(B b:Nat)(bs:List Value)(w:World):Prop:=Lib.IsBuilderF 102 5 B b bs w
abbrev Aag(B b:Nat)(bs:List Value)(w:World):Prop:=bT 102 5 B b (aD (aG ⟨b,0,aH⟩)) bs w
theorem Tz:liesAt prog aY.depth 102 (2/aY.cellsOf 102) 0 100 1=true:=by kernel_rfl
theorem T1:(aY.info? 100).map (·.size)=aG 2:=by kernel_rfl
theorem JI(B b:Nat)(bs:List Value)(w:World)(h:Bld B b bs w):Calls prog 163 #[aD (aG ⟨b,0,aH⟩)] w fun e w'=>e=aR (bY #[])/\Aag B b bs w'/\Below B w w'/\aU 5 (aG b) w w':=by
 obtain⟨j,a,d⟩:=Option.map_eq_some_iff.1 T1;rcases h with h | h
 ·have f:=h.cell0;have c:=h.shape;have l:=h.frozen0;have g:=Aa (h.used (aD (aG ⟨b,0,aH⟩)));have i:=h.1;clear h;go_enter func163,ntmps163;go_wp2;rw[Lib.run_to_unsafe _ ⟨b,0,aH⟩ underlying98 underlying200 a (by rw[d];decide) c (Nat.zero_lt_succ 1)];simp only[bL];rw[bM];go_wp2;rw[run_callFunc_extern func218 (by kernel_rfl) (by kernel_rfl) (by kernel_rfl) (e:=b5) (by kernel_rfl)];rw[Lib.run_noEscape];simp only[bL];rw[bM];go_wp2;rw[Lib.run_from_unsafe _ ⟨b,0,aH⟩ underlying200 underlying98 a c Tz];simp only[bL];rw[bM];go_wp2;go_end0
  exact⟨rfl,g.out,(aN B w).setCell (p:=⟨b,0,aH⟩) i _,(aX _ _ w).setCell ⟨b,0,aH⟩ rfl _⟩
 ·have f:=h.cell0;have k:=Aa h;clear h;go_enter func163,ntmps163;go_wp2;rw[Lib.run_neq_ptr_same _ _ underlying98 a];go_wp2;go_end0
  exact⟨rfl,k.out,aN B _,aX _ _ _⟩
theorem T3:(aY.info? 5).map (fun i=>(i.zero,i.size,i.bytes))=aG (aG (.int .u8 0),1,1):=by kernel_rfl
theorem Yi:aY.cellsOf 5=1:=by kernel_rfl
theorem T4(B b:Nat)(bs:List Value)(c:Int)(w:World)(h:Bld B b bs w)(H:bs.length+1<=140737488355328)(I:B<=w.heap.size):Calls prog 102 #[aD (aG ⟨b,0,aH⟩),.int .u8 c] w fun e w'=>e=aR .nilIface/\Aag B b (bs++[.int .u8 c]) w'/\Below B w w'/\aU 5 (aG b) w w':=by
 obtain⟨i0,x,y,z,A⟩:=info_parts T3;have q:=JI B b bs w h;clear h;go_enter func102,ntmps102;go_wp2_with (go_at_call 163;refine q.mono ?_)
 rintro e w1 ⟨rfl,h1,a,C⟩;clear q;obtain⟨r,v,d,m,D⟩:=h1;have c0:w1.cell? ⟨b,0,aH⟩=aG (aD (aG ⟨b,0,aH⟩)):=by rw[aI d];rfl
 have J:w1.cell? ⟨b,1,aH⟩=aG v:=by rw[aI d];rfl
 go_wp2_with (at_builtin;refine wpList_append_ownF _ rfl _ _ 22 rfl B 5 i0 (.int .u8 0) 1 1 underlying22 x y z A rfl (by decide) _ _ _ rfl (m.alloc _) ⟨w1.heap.size,0,aH⟩ 1 1 [.int .u8 c] rfl rfl ?c1 ?c2 ?c3 ?c4 ?c5 ?_)
 case c1 =>
  intro j u f
  match j,f with
  | 0,f=>simp at f;subst f;simp[Addr.add]
 case c2=>intro u s;simp at s;subst s;rfl
 case c3=>unfold maxLen;omega
 case c4=>omega
 case c5=>have:=a.size;simp;omega
 intro v' w2 t n _;have E:b<w1.heap.size:=by
  rcases b6 b w1.heap.size with o | o
  ·exact o
  ·simp[bV o]at d
 have i:w2.heap[b]?=aG (aE #[aD (aG ⟨b,0,aH⟩),v] 102 (0,0)):=by
  rw[n.block b (by simp;omega) (fun e=>D e.symm),Lib.alloc_old w1 _ b E];exact d
 have K:w2.cell? ⟨b,0,aH⟩=aG (aD (aG ⟨b,0,aH⟩)):=by rw[aI i];rfl
 have L:w2.cell? ⟨b,1,aH⟩=aG v:=by rw[aI i];rfl
 have M:w2.frozen? ⟨b,1,aH⟩=false:=b2 i 1;obtain⟨g,l,rfl⟩:∃g l,v'=aC (aG ⟨g,0,aH⟩) (bs.length+1) l:=by
  rcases t.2 with ⟨_,N⟩ | ⟨g,l,O,P,F,_⟩
  ·omega
  ·exact⟨g,l,F⟩
 go_wp2;go_ret;refine⟨rfl,?_,?_,((C.alloc _).grown n (b4 (m.alloc _))).setCell ⟨b,1,aH⟩ rfl _⟩
 ·exact bO (T:=102) (e:=5) r i (bs':=bs++[.int .u8 c]) (by simpa using t) (by decide)
 ·exact((a.alloc (by have:=a.size;omega) _).grown n (by have:=a.size;simp;omega) (fun k G=>(m.lt k G).1)).setCell (p:=⟨b,1,aH⟩) r _
theorem OE(B b:Nat)(bs:List Value)(s:ByteArray)(w:World)(h:Bld B b bs w)(D:bs.length+s.size<=140737488355328)(E:B<=w.heap.size):Calls prog 101 #[aD (aG ⟨b,0,aH⟩),aA s] w fun e w'=>e=aR (bY #[.int .i64 s.size,.nilIface])/\Aag B b (bs++bJ s) w'/\Below B w w'/\aU 5 (aG b) w w':=by
 obtain⟨i0,r,t,u,x⟩:=info_parts T3;have n:=JI B b bs w h;clear h;go_enter func101,ntmps101;go_wp2_with (go_at_call 163;refine n.mono ?_)
 rintro e w1 ⟨rfl,h1,d,y⟩;clear n;obtain⟨o,v,a,f,z⟩:=h1;have c0:w1.cell? ⟨b,0,aH⟩=aG (aD (aG ⟨b,0,aH⟩)):=by rw[aI a];rfl
 have F:w1.cell? ⟨b,1,aH⟩=aG v:=by rw[aI a];rfl
 go_wp2_with (at_builtin;refine Lib.wpList_append_own_stringF _ rfl _ _ 22 9 rfl B 5 i0 underlying22 underlying9 r t u x _ _ _ rfl f s rfl ?c3 ?c4 ?c5 ?_)
 case c3=>unfold maxLen;omega
 case c4=>omega
 case c5=>have:=d.size;omega
 intro v' w2 q i _;have A:b<w1.heap.size:=by
  rcases b6 b w1.heap.size with j | j
  ·exact j
  ·simp[bV j]at a
 have c:w2.heap[b]?=aG (aE #[aD (aG ⟨b,0,aH⟩),v] 102 (0,0)):=by
  rw[i.block b A (fun e=>z e.symm)];exact a
 have G:w2.cell? ⟨b,0,aH⟩=aG (aD (aG ⟨b,0,aH⟩)):=by rw[aI c];rfl
 have H:w2.cell? ⟨b,1,aH⟩=aG v:=by rw[aI c];rfl
 have I:w2.frozen? ⟨b,1,aH⟩=false:=b2 c 1;obtain⟨ao,n',l,rfl⟩:∃ao n' l,v'=aC ao n' l:=by
  rcases q.2 with ⟨m,_⟩ | ⟨g,l,J,K,m,_⟩
  ·exact⟨_,_,_,m⟩
  ·exact⟨_,_,_,m⟩
 go_wp2;go_ret2
 refine⟨rfl,?_,?_,(y.grown i (b4 f)).setCell ⟨b,1,aH⟩ rfl _⟩
 ·exact bO (T:=102) (e:=5) o c (bs':=bs++bJ s) (by simpa [Lib.strCells_length] using q) (by decide)
 ·exact(d.grown i (by have:=d.size;omega) (fun k C=>(f.lt k C).1)).setCell (p:=⟨b,1,aH⟩) o _
theorem T5(B b:Nat)(l:List UInt8)(w:World)(h:Bld B b (aJ l) w)(k:l≠[]):Calls prog 71 #[aD (aG ⟨b,0,aH⟩)] w fun e w'=>e=aR (aA ⟨l.toArray⟩)/\Bld B b (aJ l) w'/\Below B w w'/\aU 5 (aG b) w w':=by
 obtain⟨p,o,q⟩:∃p,(p=aD aH\/p=aD (aG ⟨b,0,aH⟩))/\bT 102 5 B b p (aJ l) w:=by
  rcases h with h | h
  ·exact⟨_,.inl rfl,h⟩
  ·exact⟨_,.inr rfl,h⟩
 obtain⟨s,v,m,f,t⟩:=q;have u:l.length≠0:=by simpa using k
 rw[aQ]at f;obtain⟨g,a,c,d,rfl,y,n,I,J,z,K,L⟩:∃g a c d,v=aC (aG ⟨g,0,aH⟩) l.length a/\B<=g/\w.heap[g]?=aG (aE c 5 d)/\d.2<=l.length*1/\l.length<=a/\a<=maxLen/\c.size=a*1/\c.toList.take (l.length*1)=aJ l:=by
  rcases f.2 with ⟨_,A⟩ | ⟨g,a,c,d,C,r⟩
  ·exact absurd A u
  ·exact⟨g,a,c,d,C,r⟩
 have D:w.drew.cell? ⟨b,1,aH⟩=aG (aC (aG ⟨g,0,aH⟩) l.length a):=by
  have:w.drew.heap[b]?=aG (aE #[p,aC (aG ⟨g,0,aH⟩) l.length a] 102 (0,0)):=m;rw[aI this];rfl
 have M:(bP #[22] 196 #[aC (aG ⟨g,0,aH⟩) l.length a]).run prog w.drew=.ok (aD (aG ⟨g,0,aH⟩)) w.drew :=
  Lib.run_unsafeSliceData_row _ _ _ _ _ _ (by omega)
 have N:(bU #[196,3] 9 #[aD (aG ⟨g,0,aH⟩),.int .i64 l.length]).run prog w.drew=.ok (aA ⟨l.toArray⟩) (w.drew.freeze ⟨g,0,aH⟩ l.length):=by
  refine Lib.run_unsafeString_row w.drew 196 3 9 5 underlying196 Yi g c.size (by have E:w.drew.heap[g]?=aG (aE c 5 d):=n;simp[World.shape?,E]) l k (by omega) (by unfold maxLen at z;omega) ?_;intro j x F;have:=f.cells (g:=g) rfl j (.int .u8 x.toNat) (by simp[aJ,F]);exact this
 have G:Bld B b (aJ l) (w.drew.freeze ⟨g,0,aH⟩ l.length):=by
  have H:bT 102 5 B b p (aJ l) w.drew:=⟨s,_,m,by rw[aQ];exact f,t⟩;have i:=H.froze (g:=g) (cap:=a) (by rw[aQ];exact D);rw[aQ]at i;rcases o with rfl | rfl
  ·exact .inl i
  ·exact .inr i
 have mixed:aY.follows .mixedOrders=true:=by kernel_rfl
 go_enter func71,ntmps71;go_wp2;go_region_o
 all_goals (go_wp2;go_ret;exact⟨rfl,G,Lib.below_freeze (Below.drew (aN B w)) (p:=⟨g,0,aH⟩) y _,((aX _ _ w).drew).freeze ⟨g,0,aH⟩ _ ⟨c,d,n⟩⟩)
theorem Ld(_B b:Nat)(w:World)(a:w.heap[b]?=aG (aE #[aD aH,aC aH 0 0] 102 (0,0))):Calls prog 71 #[aD (aG ⟨b,0,aH⟩)] w fun e w'=>e=aR (aA ⟨#[]⟩)/\w'=w.drew:=by
 have c:∀(W:World) (q:Option Addr),(bU #[196,3] 9 #[aD q,.int .i64 0]).run prog W=.ok (aA .empty) W:=fun W q=>Lib.run_unsafeString_none W _ _ _ q
 have d:w.drew.cell? ⟨b,1,aH⟩=aG (aC aH 0 0):=by
  have:w.drew.heap[b]?=aG (aE #[aD aH,aC aH 0 0] 102 (0,0)):=a;rw[aI this];rfl
 have f:(bP #[22] 196 #[aC aH 0 0]).run prog w.drew=.ok (aD aH) w.drew:=rfl;have mixed:aY.follows .mixedOrders=true:=by kernel_rfl
 go_enter func71,ntmps71;go_wp2;go_region_o
 all_goals (go_wp2;go_ret;exact⟨rfl,rfl⟩)
variable {e:TypeId}{w u w0:World}{B:Nat}
theorem GR{b:Option Nat}(h:Below w.heap.size w u):aU e b w u:=by
 intro k o a _ _;have c:k<w.heap.size:=(bQ.1 a).1;rw[h.block k c];exact a
theorem N5(s:ByteArray):bJ s=aJ s.data.toList:=by
 simp[bJ,aJ]
theorem IH(l m:List UInt8):aJ (l++m)=aJ l++aJ m:=by
 simp[aJ]
def UD(B b:Nat)(l:List UInt8)(w:World):Prop:=Bld B b (aJ l) w
theorem UD.gr{b:Nat}{l:List UInt8}(h:UD B b l w)(a:Below w.heap.size w u):UD B b l u:=Ac7 h a
def Ee(B b:Nat)(l:List UInt8)(w w':World):Prop:=UD B b l w'/\Below B w w'/\aU 5 (aG b) w w'
theorem UD.lt{b:Nat}{l:List UInt8}(h:UD B b l w):b<w.heap.size:=by
 rcases h with h | h <;> exact h.lt
theorem Le{b:Nat}{l:List UInt8}(c:UInt8)(h:UD B b l w)(a:l.length+1<=140737488355328)(d:B<=w.heap.size):Calls prog 102 #[aD (aG ⟨b,0,aH⟩),.int .u8 (c.toNat:Int)] w fun e w'=>e=aR .nilIface/\Ee B b (l++[c]) w w':=by
 refine(T4 B b (aJ l) c.toNat w h (by rw[aQ];exact a) d).mono ?_;rintro e w' ⟨rfl,h1,f,g⟩;refine⟨rfl,.inr ?_,f,g⟩;rw[IH];exact h1
theorem E3{b:Nat}{l:List UInt8}(s:ByteArray)(h:UD B b l w)(a:l.length+s.data.toList.length<=140737488355328)(c:B<=w.heap.size):Calls prog 101 #[aD (aG ⟨b,0,aH⟩),aA s] w fun e w'=>e=aR (bY #[.int .i64 s.size,.nilIface])/\Ee B b (l++s.data.toList) w w':=by
 refine(OE B b (aJ l) s w h (by rw[aQ];simpa using a) c).mono ?_;rintro e w' ⟨rfl,h1,d,f⟩;refine⟨rfl,.inr ?_,d,f⟩;rw[IH,<-N5];exact h1
def lineTo(key:ByteArray)(ws:List (List UInt8))(j:Nat):List UInt8:=key.data.toList++(ws.take j).flatMap (fun w=>32::Ck w)
theorem Lf(key:ByteArray)(ws:List (List UInt8)):lineTo key ws 0=key.data.toList:=by simp[lineTo]
theorem T6(key:ByteArray)(ws:List (List UInt8))(j:Nat)(a:j<ws.length):lineTo key ws (j+1)=lineTo key ws j++[32]++Ck ws[j]:=by
 unfold lineTo;rw[List.take_succ_eq_append_getElem a,aW];simp
theorem Vz(x:LAt):lineTo x.key x.ws x.ws.length=Ej x.I:=by
 simp[lineTo,Ej,LAt.I]
theorem Yk(key:ByteArray)(ws:List (List UInt8))(j:Nat):(lineTo key ws j).length<=(lineTo key ws ws.length).length:=by
 unfold lineTo
 conv=>rhs;rw[b3,<-bA j ws,aW]
 simp
theorem Ee.trans{b:Nat}{l m:List UInt8}{v:World}(h:Ee B b l w u)(k:Ee B b m u v):Ee B b m w v:=⟨k.1,h.2.1.trans k.2.1,h.2.2.trans k.2.2⟩
theorem Ee.gr{b:Nat}{m:List UInt8}{v:World}(a:B<=w.heap.size)(h:Below w.heap.size w u)(k:Ee B b m u v):Ee B b m w v:=⟨k.1,(h.mono a).trans k.2.1,(GR h).trans k.2.2⟩
theorem OF{b:Nat}{l:List UInt8}{x:LAt}(F:B=w0.heap.size)(o:BL w0 x)(G:Below B w0 w)(h:UD B b l w)(r:l.length+(Ej x.I).length<=140737488355328)(aj:x.ws.length<=1048576)(H:∀y∈x.ws,y.length<=1048576):Calls prog 137 #[aD (aG ⟨b,0,aH⟩),bS #[aA x.key,x.v]] w fun e w'=>e=aR (bY #[])/\Ee B b (l++Ej x.I) w w':=by
 obtain⟨a,d,s⟩:=o.ae;rw[<-Vz]at r⊢;have I:Ap w0 (aC a x.ws.length d) x.ws.length 1 (strs x.ws):=s▸o;rw[s];clear o s;obtain⟨key,v,ws⟩:=x;simp only at *;have J:=Aa (fun j=>aK (bX (Yk key ws j) l.length) r);have Y:l.length+key.data.toList.length<=140737488355328:=by have:=J.out 0;rw[Lf]at this;exact this
 have Z:=Aa (Lf key ws);have aa:=Aa H;generalize L:ws.length=n at *;have ab:=Aa L;have ac:=Aa I;clear L I r H;have t:B<=w.heap.size:=by rw[F];exact G.size
 have ak:=h.lt;have u:aG w.heap.size≠aG b:=by intro e;cases e;omega
 have z:∀c M,(bK #[aA key,aC a n d] 115)≠aE c 5 M:=by intro c M e;cases e
 have N:(w.alloc (aE #[aA key,aC a n d] 115)).heap[w.heap.size]?=aG (aE #[aA key,aC a n d] 115):=by unfold bD;simp
 have c0:=A3 (w:=w) (cs:=#[aA key,aC a n d]) (T:=115) 0;have A:Below w.heap.size w (w.alloc (aE #[aA key,aC a n d] 115)):=(aN w.heap.size w).alloc (aM _) (aE #[aA key,aC a n d] 115);go_enter func137,ntmps137;go_upto_region 1 with fail
 generalize ad:w.alloc (aE #[aA key,aC a n d] 115)=w1 at *;clear ad;have k0:=fun p:Gr w1=>A6 c0 p
 refine Fz 5 (by kernel_rfl) rfl rfl (by kernel_rfl) ?_;simp only[bF,bR];iterate 5 quiet_step (fail)
 refine wpQuiet_nil ?_;intro p K k;go_simp;have m:Below w.heap.size w p.u:=A.trans (p.h.mono A.size);have O:B<=p.u.heap.size:=aK t m.size;refine(E3 key (h.gr m) Y O).mono ?_;rintro e w2 ⟨rfl,W2⟩;refine k _ _ ?_;have P:=GR (e:=5) (b:=aG b) p.h _ _ N u z;have Q:=W2.2.2 _ _ P u z;have al:w2.cell? ⟨w.heap.size,1,aH⟩=aG (aC a n d):=by rw[aI Q];rfl
 have W:=Aa (Ee.gr t m W2);clear k K P Q W2 m O k0 c0 N z u A;go_wp2;go_loopw [15] (fun i wr=>∃j:Nat,j<=n/\i=.int .i64 (j:Int)/\Ee B b (l++lineTo key ws j) w wr) (fun i _=>n-(intOf i).toNat)
 case atStart=>exact⟨0,by omega,rfl,by rw[Z.out];exact W.out⟩
 case round =>
  obtain⟨j,am,rfl,f⟩:=hrel;by_cases ae:j<n
  ·have C:j<ws.length:=by rw[ab.out];exact ae
   obtain⟨g,off,rfl,D⟩:=ac.out.word j C;have an:wr.cell? ⟨g,off+j,aH⟩=aG (aA ⟨ws[j].toArray⟩):=((G.trans f.2.1).cell (by rw[F];exact aB w0 _ D)).trans D;have af:=aa.out ws[j] (List.getElem_mem C);have R:=Aa (T6 key ws j C);have S:=J.out (j+1);rw[R.out]at S;generalize ao:ws[j]=y at *;generalize ag:lineTo key ws (j+1)=ap at *;generalize lineTo key ws j=aq at *;simp only[aF,bB]at S;have U:B<=wr.heap.size:=aK t f.2.1.size;have V:=Le (32:UInt8) f.1 (by rw[aF];omega) U;have ar:(j:Int)<(n:Int):=by omega
   have i0:(0:Int)<=(j:Int):=by omega
   clear D W;go_wp2_with (go_at_call 102;refine V.mono ?_)
   rintro e w3 ⟨rfl,W3⟩;clear V;go_upto_region 6 with fail
   have ah:=fun q:Gr w3=>Q7 ⟨y.toArray⟩ q.u (by show y.toArray.size<=1048576;simpa using af)
   refine Fz 5 (by kernel_rfl) rfl rfl (by kernel_rfl) ?_;simp only[bF,bR];iterate 4 quiet_step (fail)
   quiet_step ((go_at_call 181;refine DH (ah _)))
   refine wpQuiet_nil ?_;intro q K k;go_simp;have X:B<=w3.heap.size:=aK U W3.2.1.size;refine(E3 _ (W3.1.gr q.h) (by simp only[aF,bB];omega) (aK X q.h.size)).mono ?_;rintro e au ⟨rfl,ai⟩;refine k _ _ ?_;clear k K;have E:=Aa (f.trans (W3.trans (Ee.gr X q.h ai)));go_wp2;go_roundw;case rel=>exact⟨j+1,by omega,by go_num,by rw[ag,R.out];simpa using E.out⟩
   case measure=>simp[intOf];omega
  ·obtain rfl:j=n:=by omega
   have E:=Aa f;clear f;go_wp2;go_end0
   exact⟨rfl,E.out⟩
def blockTo(b:PBlock)(j:Nat):List UInt8:=Ix b++10::(b.ac.take j).flatMap (fun a=>32::32::Ej a++[10])
theorem Q8(b:PBlock):blockTo b 0=Ix b++[10]:=by simp[blockTo]
theorem Q9(b:PBlock)(j:Nat)(a:PLine)(c:b.ac[j]?=aG a):blockTo b (j+1)=blockTo b j++[32,32]++Ej a++[10]:=by
 unfold blockTo;rw[bZ,c];simp
theorem Lg(b:PBlock):blockTo b b.ac.length++[101,110,100,10]=blockL b:=by
 simp[blockTo,blockL]
theorem V0(b:PBlock)(j:Nat):(blockTo b j).length+4<=(blockL b).length:=by
 rw[<-Lg];unfold blockTo
 conv=>rhs;rw[b3,<-bA j b.ac,aW]
 simp;omega
theorem JJ{b:Nat}{l:List UInt8}(s:ByteArray)(h:UD B b l w)(a:l.length+s.data.toList.length<=140737488355328)(c:B<=w.heap.size):∃v t,Hid (t=l++s.data.toList)/\Calls prog 101 #[aD (aG ⟨b,0,aH⟩),aA s] w fun e w'=>e=aR v/\Ee B b t w w':=⟨_,_,rfl,E3 s h a c⟩
theorem N6{b:Nat}{l:List UInt8}{x:BAt}(m:B=w0.heap.size)(M:AH w0 x)(N:Below B w0 w)(h:UD B b l w)(af:l.length+(blockL x.I).length<=140737488355328)(O:Ah x.ls):Calls prog 69 #[aD (aG ⟨b,0,aH⟩),bS #[aA x.aa,aA x.name,x.v]] w fun e w'=>e=aR (bY #[])/\Ee B b (l++blockL x.I) w w':=by
 obtain⟨a,d,P⟩:=M.1.ae;have Q:=Aa (show An w0 (aC a x.ls.length d) x.ls from P▸M);rw[P];clear M P;obtain⟨kind,name,v,ls⟩:=x;simp only at *;have R:=Aa (fun j=>aK (bX (V0 (BAt.I ⟨kind,name,v,ls⟩) j) l.length) af);have a1:=Aa (Lg (BAt.I ⟨kind,name,v,ls⟩));have ag:=Aa (Q8 (BAt.I ⟨kind,name,v,ls⟩));have H:=R.out 0;rw[ag.out]at H;have ah:=Aa (show (BAt.I ⟨kind,name,v,ls⟩).ac=ls.map LAt.I from rfl);have ai:=Aa (show Ix (BAt.I ⟨kind,name,v,ls⟩)=kind.data.toList++32::name.data.toList from rfl);generalize BAt.I ⟨kind,name,v,ls⟩=k at *;have a2:=Aa O;have bl:=O.1;generalize aj:ls.length=n at *;have ak:=Aa aj;clear aj af O;have r:B<=w.heap.size:=by rw[m];exact N.size
 have bm:=h.lt;replace m:=Aa m;have o:aG w.heap.size≠aG b:=by intro e;cases e;omega
 have q:∀c s,(bK #[aA kind,aA name,aC a n d] 46)≠aE c 5 s:=by intro c s e;cases e
 have al:(w.alloc (aE #[aA kind,aA name,aC a n d] 46)).heap[w.heap.size]?=aG (aE #[aA kind,aA name,aC a n d] 46):=by unfold bD;simp
 have c0:=A3 (w:=w) (cs:=#[aA kind,aA name,aC a n d]) (T:=46) 0;have am:=A3 (w:=w) (cs:=#[aA kind,aA name,aC a n d]) (T:=46) 1;have S:Below w.heap.size w (w.alloc (aE #[aA kind,aA name,aC a n d] 46)):=(aN w.heap.size w).alloc (aM _) (aE #[aA kind,aA name,aC a n d] 46);have a3:kind.size+1+name.size+1<=140737488355328:=by
  rw[ai.out]at H;simp at H;omega
 have a4:¬ 9223372036854775807<kind.size+1:=by omega
 have a5:¬ 9223372036854775807<kind.size+1+name.size:=by omega
 have a6:¬ 9223372036854775807<kind.size+1+name.size+1:=by omega
 go_enter func69,ntmps69;go_upto_region 1 with fail
 generalize a7:w.alloc (aE #[aA kind,aA name,aC a n d] 46)=w1 at *;clear a7;have k0:=fun p:Gr w1=>A6 c0 p
 have a8:=fun p:Gr w1=>A6 am p
 refine Fz 10 (by kernel_rfl) rfl rfl (by kernel_rfl) ?_;simp only[bF,bR];iterate 10 quiet_step (fail)
 refine wpQuiet_nil ?_;intro p K an;go_simp;have I:Below w.heap.size w p.u:=S.trans (p.h.mono S.size);have ao:B<=p.u.heap.size:=aK r I.size;have U:(kind++⟨#[32]⟩++name++⟨#[10]⟩:ByteArray).data.toList=Ix k++[10]:=by rw[ai.out];simp
 generalize (kind++⟨#[32]⟩++name++⟨#[10]⟩:ByteArray)=bn at *;refine(E3 _ (h.gr I) (by rw[U];omega) ao).mono ?_;rintro e w2 ⟨rfl,W2⟩;refine an _ _ ?_;have ap:=GR (e:=5) (b:=aG b) p.h _ _ al o q;have aq:=W2.2.2 _ _ ap o q;have bo:w2.cell? ⟨w.heap.size,2,aH⟩=aG (aC a n d):=by rw[aI aq];rfl
 have W:=Aa (Ee.gr r I W2);rw[U,<-ag.out]at W;clear an K ap aq W2 I ao k0 a8 c0 am al q o S U a4 a5 a6 a3 H;go_wp2;go_loopw [20] (fun i wr=>∃j:Nat,j<=n/\i=.int .i64 (j:Int)/\Ee B b (l++blockTo k j) w wr) (fun i _=>n-(intOf i).toNat)
 case atStart=>exact⟨0,by omega,rfl,W.out⟩
 case round =>
  obtain⟨j,bp,rfl,f⟩:=hrel;by_cases bq:j<n
  ·obtain⟨D,y,T,V,ar⟩:=AS ls j (by have:=ak.out;omega);have X:=Q.out;rw[V]at X;obtain⟨g,off,rfl,c3,c4⟩:=X.1.line;have Y:y∈ls:=by rw[V];simp
   obtain⟨u,z,Z⟩:=(Q.out.2 y Y).ae;rw[ar]at c3 c4;rw[Z]at c4;have au:=N.trans f.2.1;have br:=(au.cell (by rw[m.out];exact aB w0 _ c3)).trans c3;have bs:=(au.cell (by rw[m.out];exact aB w0 _ c4)).trans c4;have a9:k.ac[j]?=aG y.I:=by rw[ah.out,V,<-ar];simp
   have av:=Aa (Q9 k j y.I a9);have A:=R.out (j+1);rw[av.out]at A;generalize ba:blockTo k (j+1)=bt at *;generalize blockTo k j=aa at *;simp only[aF,bB]at A;have aw:B<=wr.heap.size:=aK r f.2.1.size;have bu:(j:Int)<(n:Int):=by omega
   have i0:(0:Int)<=(j:Int):=by omega
   have ax:=a2.out.2 y Y;have ab:=fun(W:World) (t:List UInt8) (bb:Below B w0 W) (bc:UD B b t W) bd=>OF m.out (Q.out.2 y Y) bb bc bd ax.1 ax.2
   rw[Z]at ab;have be:=Aa ab;clear c3 c4 W ab X Z;generalize y.ws.length=C at *;generalize y.key=yk at *;have J:Below wr.heap.size wr (wr.alloc (aE #[aA yk,aC u C z] 115)):=(aN wr.heap.size wr).alloc (aM _) _;have ay:(wr.alloc (aE #[aA yk,aC u C z] 115)).heap[wr.heap.size]?=aG (aE #[aA yk,aC u C z] 115):=by unfold bD;simp
   have bf:=f.1.lt;have o:aG wr.heap.size≠aG b:=by intro e;cases e;omega
   have q:∀c s,(bK #[aA yk,aC u C z] 115)≠aE c 5 s:=by intro c s e;cases e
   obtain⟨v1,bg,E,F⟩:=JJ ⟨#[32,32]⟩ (f.1.gr J) (by show (l++aa).length+2<=_;rw[aF];omega) (aK aw J.size);go_wp2_with (go_at_call 101;refine F.mono ?_)
   first | rintro e w3 rfl W3 | rintro e w3 ⟨rfl,W3⟩
   have ac:=W3.2.2 _ _ ay o q;have bv:w3.cell? ⟨wr.heap.size,0,aH⟩=aG (aA yk):=by rw[aI ac];rfl
   have bw:w3.cell? ⟨wr.heap.size,1,aH⟩=aG (aC u C z):=by rw[aI ac];rfl
   have ad:=f.trans (Ee.gr aw J W3);have az:=be.out w3 _ (N.trans ad.2.1) W3.1 (by rw[E.out];show (l++aa++[32,32]).length+_<=_;simp only[aF,aS,bx]at A⊢;omega);clear F ay o q ac W3 J bf;go_wp2_with (go_at_call 137;refine az.mono ?_)
   first | rintro e bh rfl L | rintro e bh ⟨rfl,L⟩
   have ae:=ad.trans L;have a0:=Le (10:UInt8) L.1 (by rw[E.out];show (l++aa++[32,32]++_).length+_<=_;simp only[aF,aS,bx]at A⊢;omega) (aK r ae.2.1.size);clear az L;go_wp2_with (go_at_call 102;refine a0.mono ?_)
   first | rintro e bi rfl G | rintro e bi ⟨rfl,G⟩
   have bj:=Aa (ae.trans G);clear a0 G ae ad;go_wp2;go_roundw;case rel=>exact⟨j+1,by omega,by go_num,by rw[ba,av.out];have:=bj.out;rw[E.out]at this;simpa using this⟩
   case measure=>simp[intOf];omega
  ·obtain rfl:j=n:=by omega
   have A:=R.out j;have bk:=Aa (show k.ac.length=j by rw[ah.out,aV,ak.out]);obtain⟨v1,bg,E,F⟩:=JJ ⟨#[101,110,100,10]⟩ f.1 (by show (l++blockTo k j).length+4<=_;rw[aF];omega) (aK r f.2.1.size);clear W;go_wp2_with (go_at_call 101;refine F.mono ?_)
   first | rintro e w3 rfl W3 | rintro e w3 ⟨rfl,W3⟩
   have G:=Aa (f.trans W3);clear f W3 F;go_wp2;go_end0
   refine⟨rfl,?_⟩;have:=G.out;rw[E.out]at this;rw[<-a1.out,bk.out,<-List.append_assoc];exact this
variable {kind:ByteArray}
theorem JK{α:Type}(f:α->List UInt8)(c:Nat):∀(l:List α),(∀x∈l,(f x).length<=c)->(l.flatMap f).length<=l.length*c
 | [],_=>by simp
 | a::l,h=>by
  have h1:=h a (by simp);have d:=JK f c l (fun x b=>h x (by simp[b]));rw[b1,aF,aS,Nat.succ_mul];omega
theorem Aai(l:List UInt8):(Ck l).length<=3*l.length+2:=by
 unfold Ck;split
 ·omega
 ·have:=JK qb 3 l (fun c _=>Zd c);simp only[FZ,aF,aS,bx];omega
theorem T9{a:PLine}(h:BR (rulesOf kind) a.key a.ws=true):(Ej a).length<=2100:=by
 obtain⟨_,e,_,b,c⟩:=Gp h;unfold Ej;have:=JK (fun w=>32::Ck w) 603 a.ws (fun w d=>by have:=Aai w;have:=c w d;rw[aS];omega);rw[aF];have f:a.ws.length*603<=3*603:=bE _ b;omega
theorem Yl{b:PBlock}(h:Ic b)(c:b.ac.length<=1048576):(blockL b).length<=2300000000:=by
 have h1:=(Kq h.1).2;have e:=(Gn h.2.1).2;have f:=JK (fun a=>32::32::Ej a++[10]) 2103 b.ac (fun a d=>by have:=T9 (h.2.2 a d);simp;omega);have g:b.ac.length*2103<=1048576*2103:=bE _ c;unfold blockL Ix;simp only[aF,aS,bx];omega
theorem Ym{bs:List PBlock}(h:Am bs)(c:∀b∈bs,b.ac.length<=1048576):(sheetL bs).length<=140737488355328:=by
 have d:=JK blockL 2300000000 bs (fun b a=>Yl ⟨(h.2.1 b a).1,(h.2.1 b a).2.1,(h.2.1 b a).2.2.1⟩ (c b a));have e:bs.length*2300000000<=60*2300000000:=bE _ h.1;unfold sheetL;omega
theorem Yn(b:PBlock):blockL b≠[]:=by unfold blockL Ix;simp
theorem Yo{bs:List PBlock}(h:bs≠[]):sheetL bs≠[]:=by
 cases bs with
 | nil=>exact absurd rfl h
 | cons b bs=>rw[sheetL,b1];simp[Yn b]
theorem QB(bs:List PBlock)(j:Nat)(b:PBlock)(a:bs[j]?=aG b):sheetL (bs.take (j+1))=sheetL (bs.take j)++blockL b:=by
 unfold sheetL;rw[bZ,a];simp
theorem V5(bs:List PBlock)(j:Nat):(sheetL (bs.take j)).length<=(sheetL bs).length:=by
 unfold sheetL
 conv=>rhs;rw[<-bA j bs,aW]
 simp
section
open Go.Lib (decDigits)
theorem Aaj{b:PBlock}(h:Aw (rulesOf b.aa) b.ac):b.ac.length<=120/\∀a∈b.ac,(Ej a).length<=2100:=by
 have h1:=h.few;have d:=(Bf b.aa).1;exact⟨by omega,fun a c=>T9 (h.1 a c)⟩
end
theorem Aed{t:ByteArray}{l:List UInt8}(h:t.data.toList=l):t=⟨l.toArray⟩:=by
 subst h;cases t;simp
variable {bs:List BAt}
theorem TG(t:ByteArray):t.data.toList.length=t.size:=by simp
theorem Gu(h:Am (bs.map BAt.I)):Ax bs:=by
 have d:=h.1;rw[aV]at d;refine⟨by omega,fun b f=>?_⟩;have h1:=h.2.1 b.I (aT f);have a:=(Gn h1.2.1).2;have j:=(Aaj h1.2.2).1;have e:b.I.ac.length=b.ls.length:=aV ..;rw[TG]at a;refine⟨aK a (by decide),by omega,fun x g=>?_⟩;have c:=Gp (h1.2.2.1 x.I (aT g));exact⟨aK c.2.2.2.1 (by decide),fun y i=>aK (c.2.2.2.2 y i) (by decide)⟩
theorem CM(W:World)(g j:Nat)(u:Value):W.grownBy (W.setCell ⟨g,j,aH⟩ u) (aG g):=⟨rfl,rfl,rfl,by simp,fun k _ a=>by rw[Below.heap_setCell _ _ _ _ (by simpa using fun e=>a (by rw[e]))]⟩
variable {name:ByteArray}{j:Nat}
theorem Aao{t:ByteArray}(h:¬t=⟨#[]⟩):t.toList.isEmpty=false:=by
 rw[List.isEmpty_eq_false_iff];intro e;exact h (Aed (by rw[<-bz];exact e))
theorem NC{P:List PBlock}{a:j<P.length}(e:bs.map BAt.I=P)(b:P.find? (AE kind name)=aG P[j]):∃D x T,bs=D++x::T/\D.length=j/\AE kind name x.I=true/\look P kind name=aG x.I:=by
 obtain⟨D,x,T,c,d⟩:=AS bs j (by rw[<-e,aV]at a;exact a);have f:P[j]=x.I:=by
  have h1:P[j]?=aG x.I:=by rw[<-e,c,List.getElem?_map,List.getElem?_append_right (by omega),d,Nat.sub_self];rfl
  rw[List.getElem?_eq_getElem a]at h1;exact bH h1
 rw[f]at b;exact⟨D,x,T,c,d,List.find?_some b,b⟩
variable {W W':World}{g Y:Nat}{cs:Array Value}
def Kp7(w:World)(a:Int)(ck cn b:ByteArray)(lv c:Value)(W:World):Prop:=Below w.heap.size w W/\AA W w.heap.size #[c] 25/\AA W (w.heap.size+1) #[.int .i64 a,aA ck,aA cn,aA b,lv] 93/\AA W (w.heap.size+2) #[aC aH 0 0] 25
theorem AA.grown{T:TypeId}(h:AA W g cs T)(a:W.grownBy W' (aG Y))(b:g≠Y):AA W' g cs T :=
 (a.block g (bQ.1 (show W.heap[g]?=_ from h)).1 (by intro e;exact b (bH e))).trans h
structure S7(B g:Nat)(w:World)(Y:Nat)(what:Int)(ck cn cy:ByteArray)(lv sv:Value)(cl:List LAt)(bs:List BAt)(xk xn:ByteArray)(v:Value)(ls:List LAt)(W:World):Prop where
 kp:Kp7 w what ck cn cy lv sv W
 yb:AA W Y #[aA xk,aA xn,v] 46
 yz:w.heap.size+3<=Y
 row:Ac8 B W sv bs
 cin:An W lv cl
 lin:An W v ls
 far:Ay g v ls/\Ay (w.heap.size+2) v ls/\Ay Y v ls
variable {A A':List PBlock}{m X base n t M:Nat}{v:Value}{xs:List Value}
theorem OI(a:List LAt)(b:ByteArray):(a.filter (Cf b)).map LAt.I=(a.map LAt.I).filter (CT b):=by
 rw[List.filter_map];rfl
def TI(cs:List PChange):Nat:=(cs.map (fun c=>c.ac.length)).sum
theorem TJ(c:PChange)(cs:List PChange):TI (c::cs)=c.ac.length+TI cs:=by unfold TI;simp
theorem TK(R:List Plain)(ls:List PLine)(key:ByteArray)(xs:List PLine):(DT R ls key xs).length=(ls.filter (CT key)).length+xs.length:=by
 unfold DT;generalize ls.filter (CT key)=acc
 induction xs generalizing acc with
 | nil=>rfl
 | cons a xs b=>rw[List.foldl_cons,b,(DN (lineLt R) a acc).length_eq];simp;omega
theorem Aas{c:PChange}(h:C0 A c=aG A')(d:∀b∈A,b.ac.length<=m):∀b∈A',b.ac.length<=m+c.ac.length:=by
 have f:∀ls:List PLine,ls.length<=m+c.ac.length->∀b∈KT A c.aa c.name ls,b.ac.length<=m+c.ac.length:=fun ls i b a=>by
  unfold KT at a;obtain⟨b0,j,e⟩:=bI.1 a;by_cases g:AE c.aa c.name b0=true
  ·rw[if_pos g]at e;rw[<-e];exact i
  ·rw[if_neg g]at e;rw[<-e];have:=d b0 j;omega
 unfold C0 at h;split at h
 ·split at h
  ·cases h
   intro b a;rcases List.mem_cons.1 ((DN blockLt _ A).mem_iff.1 a) with rfl | a
   ·exact Nat.le_add_left _ _
   ·have:=d b a;omega
  ·cases h
 ·rename_i b0 k;have l:=d b0 (Bo k).1;split at h
  ·cases h
   intro b a;have:=d b (bN.1 a).1;omega
  split at h
  ·cases h
   refine f _ ?_;rw[TK];have:=bC (CT c.key) b0.ac;omega
  split at h
  ·cases h
   refine f _ ?_;have:=bC (CT c.key) b0.ac;omega
  ·cases h
theorem JQ{size:Nat}{T:TypeId}(d:AA W X cs T)(h:W.ownsRow base e size v n xs)(f:T≠e):v.ownBlock≠aG X:=by
 intro b;rcases h.2 with ⟨rfl,_⟩ | ⟨g,l,i,rfl,_,c,_⟩
 ·cases b
 ·have j:g=X:=bH b;rw[j]at c;have a:aG (bK cs T (0,0))=aG (bK i e (0,0)):=(show W.heap[X]?=_ from d).symm.trans c;injection a with a
  injection a with _ k
  exact f k
theorem Il:(∀b∈bs,b.ls.length+t<=M)↔∀p∈bs.map BAt.I,p.ac.length+t<=M:=by
 constructor
 ·intro h p c;obtain⟨b,a,rfl⟩:=bI.1 c;have:=h b a;unfold BAt.I;simpa using this
 ·intro h b a;have:=h b.I (aT a);unfold BAt.I at this;simpa using this
def ND(a:List PBlock × Int)(w:World)(e:Ending)(w':World):Prop:=∃v' bs',e=aR (bY #[bS #[v'],.int .i64 a.2])/\bs'.map BAt.I=a.1/\Aq w.heap.size w' v' bs'/\Below w.heap.size w w'
theorem QJ(i:Nat)(A:List PBlock)(c:PChange)(cs:List PChange):D4 i A (c::cs)=match C0 A c with
  | none=>([],2+(i:Int))
  | some A'=>D4 (i+1) A' cs:=rfl
theorem Aat{c:PChange}(h:C0 A c=aG A')(e:c.ac.length+t<=M)(d:∀b∈A,b.ac.length+(c.ac.length+t)<=M):∀b∈A',b.ac.length+t<=M:=fun b a=>by
 have:=Aas (m:=M-(c.ac.length+t)) h (fun b a=>by have:=d b a;omega) b a;omega
def Lw(p:Int):List PanicEntry:=[{ v:=.iface 173 (bS #[.int .i64 p]),recovered:=false }]
def EJ(c:PChange):Prop:=(c.ak=1/\c.key=⟨#[]⟩/\c.ac=[])\/(c.ak=2/\c.key=⟨#[]⟩)\/(c.ak=3/\c.ac≠[]/\∀a∈c.ac,a.key=c.key)\/(c.ak=4/\c.ac=[])
def Iq(p:Int)(c:Bl)(w:World)(e:Ending)(w':World):Prop:=Below w.heap.size w w'/\((EJ c.I/\∃v',e=aR (Bl.step ⟨c.ak,c.aa,c.name,c.key,v',c.ls⟩)/\An w' v' c.ls)\/(¬EJ c.I/\e=.panicked (Lw p)))
theorem Wr{k n y:ByteArray}{L:List PLine}:EJ ⟨1,k,n,y,L⟩↔y=⟨#[]⟩/\L=[]:=by simp[EJ]
theorem Abv{k n y:ByteArray}{L:List PLine}:EJ ⟨2,k,n,y,L⟩↔y=⟨#[]⟩:=by simp[EJ]
theorem Ws{k n y:ByteArray}{L:List PLine}:EJ ⟨3,k,n,y,L⟩↔L≠[]/\∀a∈L,a.key=y:=by simp[EJ]
theorem Abw{k n y:ByteArray}{L:List PLine}:EJ ⟨4,k,n,y,L⟩↔L=[]:=by simp[EJ]
theorem Uw{c:PChange}(h1:c.ak≠1)(a:c.ak≠2)(b:c.ak≠3)(d:c.ak≠4):¬EJ c:=by
 intro h;rcases h with h | h | h | h
 ·exact h1 h.1
 ·exact a h.1
 ·exact b h.1
 ·exact d h.1
theorem Ux{ls:List LAt}{k:ByteArray}(h:(withKey ls k).length=ls.length):withKey ls k=ls:=bW.2 (by
 have:=List.length_filter_eq_length_iff.1 h;exact this)
theorem Wt{p:Int}{c:Bl}(h:w.cell? ⟨M,1,aH⟩=aG (.int .i64 p))(i:An w c.v c.ls)(j:c.ls.length<=1048576)(h1:c.ak≠1)(k:c.ak≠2)(l:c.ak≠3)(m:c.ak≠4):Calls prog 131 #[aD (aG ⟨M,0,aH⟩),bS #[.int .i64 c.ak,aA c.aa,aA c.name,aA c.key,c.v]] w fun e w'=>Iq p c w e w':=by
 obtain⟨a,ck,cn,f,cv,d⟩:=c;have g:An w cv d:=i;clear i;have r:d.length<=1048576:=j;clear j;obtain⟨la,lc,rfl⟩:=g.1.ae;have n:a≠1:=h1;have o:a≠2:=k;have g3:a≠3:=l;have g4:a≠4:=m;clear h1 k l m;have E:(a==1)=false:=by simpa using n
 have F:(a==2)=false:=by simpa using o
 have G:(a==3)=false:=by simpa using g3
 have H:(a==4)=false:=by simpa using g4
 have b0:Below w.heap.size w ((w.alloc (aE #[.int .i64 a,aA ck,aA cn,aA f,aC la d.length lc] 93)).alloc (aE #[aA ck,aA cn] 73)):=((aN w.heap.size w).alloc (aM _) _).alloc (by simp) _;have b:=BO (w:=w) (cs:=#[.int .i64 a,aA ck,aA cn,aA f,aC la d.length lc]) (ds:=#[aA ck,aA cn]) (T:=93) (U:=73);have s:=b.1 0;have t:=b.1 1;have u:=b.1 2;have v:=b.1 3;have x:=b.1 4;have y:=b.2 0;have z:=b.2 1;have A:=A3 (w:=w) (cs:=#[.int .i64 a,aA ck,aA cn,aA f,aC la d.length lc]) (T:=93) 1;have B:=A3 (w:=w) (cs:=#[.int .i64 a,aA ck,aA cn,aA f,aC la d.length lc]) (T:=93) 2;have C:=aB w _ h;have I:=(b0.cell C).trans h;simp only[aO,aL,aP]at s t u v x y z A B;have D:=fun rk=>Ce rk (g.V b0) r
 have J:=Aa (g.V b0);clear b g;generalize q:d.length=nl at *;have K:=Aa q;clear q;go_enter func131,ntmps131;clear D;go_wp2;exact⟨rfl,b0,.inr ⟨Uw n o g3 g4,rfl⟩⟩
theorem Abx{p:Int}{c:Bl}(i:w.cell? ⟨M,1,aH⟩=aG (.int .i64 p))(j:An w c.v c.ls)(k:c.ls.length<=1048576)(l:c.ak=2):Calls prog 131 #[aD (aG ⟨M,0,aH⟩),bS #[.int .i64 c.ak,aA c.aa,aA c.name,aA c.key,c.v]] w fun e w'=>Iq p c w e w':=by
 obtain⟨n,ck,cn,d,cv,b⟩:=c;have f:An w cv b:=j;clear j;have o:b.length<=1048576:=k;clear k;obtain⟨la,lc,rfl⟩:=f.1.ae;have q:n=2:=l;clear l;subst q;have b0:Below w.heap.size w ((w.alloc (aE #[.int .i64 2,aA ck,aA cn,aA d,aC la b.length lc] 93)).alloc (aE #[aA ck,aA cn] 73)):=((aN w.heap.size w).alloc (aM _) _).alloc (by simp) _;have a:=BO (w:=w) (cs:=#[.int .i64 2,aA ck,aA cn,aA d,aC la b.length lc]) (ds:=#[aA ck,aA cn]) (T:=93) (U:=73);have r:=a.1 0;have s:=a.1 1;have t:=a.1 2;have u:=a.1 3;have x:=a.1 4;have y:=a.2 0;have z:=a.2 1;have A:=A3 (w:=w) (cs:=#[.int .i64 2,aA ck,aA cn,aA d,aC la b.length lc]) (T:=93) 1;have B:=A3 (w:=w) (cs:=#[.int .i64 2,aA ck,aA cn,aA d,aC la b.length lc]) (T:=93) 2;have C:=aB w _ i;have D:=(b0.cell C).trans i;simp only[aO,aL,aP]at r s t u x y z A B;have E:=fun rk=>Ce rk (f.V b0) o
 have F:=Aa (f.V b0);clear a f;generalize m:b.length=nl at *;have G:=Aa m;clear m;go_enter func131,ntmps131;clear E;by_cases g:d=⟨#[]⟩
 ·subst g;go_wp2_with (go_at_call 173;refine(D9 M _).mono ?_;rintro e w2 ⟨rfl,rfl⟩)
  refine bodyPost_ret (v:=.iface 185 (bS #[aA ck,aA cn,aC la nl lc])) (by simp[results,results131,go_sem]) rfl ⟨b0,.inl ⟨Abv.2 rfl,aC la nl lc,rfl,F.out⟩⟩
 ·have H:=Aao g;go_wp2_with (go_at_call 173;refine(Cg (p:=p) D).mono ?_;rintro e w2 ⟨rfl,rfl⟩)
  exact⟨rfl,b0,.inr ⟨fun h=>g (Abv.1 h),rfl⟩⟩
theorem YI{p:Int}{c:Bl}(k:w.cell? ⟨M,1,aH⟩=aG (.int .i64 p))(l:An w c.v c.ls)(m:c.ls.length<=1048576)(n:c.ak=1):Calls prog 131 #[aD (aG ⟨M,0,aH⟩),bS #[.int .i64 c.ak,aA c.aa,aA c.name,aA c.key,c.v]] w fun e w'=>Iq p c w e w':=by
 obtain⟨t,ck,cn,d,cv,a⟩:=c;have g:An w cv a:=l;clear l;have u:a.length<=1048576:=m;clear m;obtain⟨la,lc,rfl⟩:=g.1.ae;have x:t=1:=n;clear n;subst x;have b0:Below w.heap.size w ((w.alloc (aE #[.int .i64 1,aA ck,aA cn,aA d,aC la a.length lc] 93)).alloc (aE #[aA ck,aA cn] 73)):=((aN w.heap.size w).alloc (aM _) _).alloc (by simp) _;have b:=BO (w:=w) (cs:=#[.int .i64 1,aA ck,aA cn,aA d,aC la a.length lc]) (ds:=#[aA ck,aA cn]) (T:=93) (U:=73);have y:=b.1 0;have z:=b.1 1;have A:=b.1 2;have B:=b.1 3;have C:=b.1 4;have D:=b.2 0;have E:=b.2 1;have F:=A3 (w:=w) (cs:=#[.int .i64 1,aA ck,aA cn,aA d,aC la a.length lc]) (T:=93) 1;have G:=A3 (w:=w) (cs:=#[.int .i64 1,aA ck,aA cn,aA d,aC la a.length lc]) (T:=93) 2;have H:=aB w _ k;have o:=(b0.cell H).trans k;simp only[aO,aL,aP]at y z A B C D E F G;have I:=fun rk=>Ce rk (g.V b0) u
 have J:=Aa (g.V b0);clear b g;generalize q:a.length=nl at *;have r:=Aa q;clear q;go_enter func131,ntmps131;clear I;by_cases i:d=⟨#[]⟩
 ·subst i;by_cases f:nl=0
  ·have s:a=[]:=aZ.1 (r.out.trans f);have j:=Aa s;clear s;subst f;go_wp2_with (go_at_call 173;refine(D9 M _).mono ?_;rintro e w2 ⟨rfl,rfl⟩)
   refine bodyPost_ret (v:=.iface 182 (bS #[aA ck,aA cn])) (by simp[results,results131,go_sem]) rfl ⟨b0,.inl ⟨Wr.2 ⟨rfl,by rw[j.out];rfl⟩,aC la 0 lc,rfl,J.out⟩⟩
  ·have j:=Aa (show a≠[] from fun e=>f (by rw[<-r.out,e];rfl));have K:(nl==0)=false:=by simpa using f
   have L:((nl:Int)==0)=false:=by simpa using f
   go_wp2_with (go_at_call 173;refine(Cg (p:=p) o).mono ?_;rintro e w2 ⟨rfl,rfl⟩)
   exact⟨rfl,b0,.inr ⟨fun h=>j.out (bG.1 (Wr.1 h).2),rfl⟩⟩
 ·have N:=Aao i;go_wp2_with (go_at_call 173;refine(Cg (p:=p) o).mono ?_;rintro e w2 ⟨rfl,rfl⟩)
  exact⟨rfl,b0,.inr ⟨fun h=>i (Wr.1 h).1,rfl⟩⟩
theorem Wu{p:Int}{c:Bl}(j:w.cell? ⟨M,1,aH⟩=aG (.int .i64 p))(k:An w c.v c.ls)(l:c.ls.length<=1048576)(m:c.ak=4):Calls prog 131 #[aD (aG ⟨M,0,aH⟩),bS #[.int .i64 c.ak,aA c.aa,aA c.name,aA c.key,c.v]] w fun e w'=>Iq p c w e w':=by
 obtain⟨r,ck,cn,d,cv,a⟩:=c;have g:An w cv a:=k;clear k;have s:a.length<=1048576:=l;clear l;obtain⟨la,lc,rfl⟩:=g.1.ae;have t:r=4:=m;clear m;subst t;have b0:Below w.heap.size w ((w.alloc (aE #[.int .i64 4,aA ck,aA cn,aA d,aC la a.length lc] 93)).alloc (aE #[aA ck,aA cn] 73)):=((aN w.heap.size w).alloc (aM _) _).alloc (by simp) _;have b:=BO (w:=w) (cs:=#[.int .i64 4,aA ck,aA cn,aA d,aC la a.length lc]) (ds:=#[aA ck,aA cn]) (T:=93) (U:=73);have u:=b.1 0;have x:=b.1 1;have y:=b.1 2;have z:=b.1 3;have A:=b.1 4;have B:=b.2 0;have C:=b.2 1;have D:=A3 (w:=w) (cs:=#[.int .i64 4,aA ck,aA cn,aA d,aC la a.length lc]) (T:=93) 1;have E:=A3 (w:=w) (cs:=#[.int .i64 4,aA ck,aA cn,aA d,aC la a.length lc]) (T:=93) 2;have F:=aB w _ j;have G:=(b0.cell F).trans j;simp only[aO,aL,aP]at u x y z A B C D E;have H:=fun rk=>Ce rk (g.V b0) s
 have I:=Aa (g.V b0);clear b g;generalize n:a.length=nl at *;have o:=Aa n;clear n;go_enter func131,ntmps131;clear H;by_cases f:nl=0
 ·have q:a=[]:=aZ.1 (o.out.trans f);have i:=Aa q;clear q;subst f;go_wp2_with (go_at_call 173;refine(D9 M _).mono ?_;rintro e w2 ⟨rfl,rfl⟩)
  refine bodyPost_ret (v:=.iface 190 (bS #[aA ck,aA cn,aA d])) (by simp[results,results131,go_sem]) rfl ⟨b0,.inl ⟨Abw.2 (by rw[i.out];rfl),aC la 0 lc,rfl,I.out⟩⟩
 ·have i:=Aa (show a≠[] from fun e=>f (by rw[<-o.out,e];rfl));have J:(nl==0)=false:=by simpa using f
  have K:((nl:Int)==0)=false:=by simpa using f
  go_wp2_with (go_at_call 173;refine(Cg (p:=p) G).mono ?_;rintro e w2 ⟨rfl,rfl⟩)
  exact⟨rfl,b0,.inr ⟨fun h=>i.out (bG.1 (Abw.1 h)),rfl⟩⟩
theorem Aby{p:Int}{c:Bl}(s:w.cell? ⟨M,1,aH⟩=aG (.int .i64 p))(A:An w c.v c.ls)(B:c.ls.length<=1048576)(C:c.ak=3):Calls prog 131 #[aD (aG ⟨M,0,aH⟩),bS #[.int .i64 c.ak,aA c.aa,aA c.name,aA c.key,c.v]] w fun e w'=>Iq p c w e w':=by
 obtain⟨R,ck,cn,b,cv,a⟩:=c;have k:An w cv a:=A;clear A;have S:a.length<=1048576:=B;clear B;obtain⟨la,lc,rfl⟩:=k.1.ae;have V:R=3:=C;clear C;subst V;have b0:Below w.heap.size w ((w.alloc (aE #[.int .i64 3,aA ck,aA cn,aA b,aC la a.length lc] 93)).alloc (aE #[aA ck,aA cn] 73)):=((aN w.heap.size w).alloc (aM _) _).alloc (by simp) _;have f:=BO (w:=w) (cs:=#[.int .i64 3,aA ck,aA cn,aA b,aC la a.length lc]) (ds:=#[aA ck,aA cn]) (T:=93) (U:=73);have D:=f.1 0;have E:=f.1 1;have F:=f.1 2;have l:=f.1 3;have m:=f.1 4;have n:=f.2 0;have o:=f.2 1;have G:=A3 (w:=w) (cs:=#[.int .i64 3,aA ck,aA cn,aA b,aC la a.length lc]) (T:=93) 1;have H:=A3 (w:=w) (cs:=#[.int .i64 3,aA ck,aA cn,aA b,aC la a.length lc]) (T:=93) 2;have I:=aB w _ s;have t:=(b0.cell I).trans s;simp only[aO,aL,aP]at D E F l m n o G H;have J:=fun rk=>Ce rk (k.V b0) S
 have W:=Aa (k.V b0);clear f k;generalize K:a.length=nl at *;have q:=Aa K;clear K;go_enter func131,ntmps131;have L:=Aa (J b);clear J;go_wp2_with (go_at_call 158;refine L.out.mono ?_)
 rintro e w2 ⟨v2,rfl,o2,g⟩;have N:=(g.cell (aB _ _ t)).trans t;have ai:=(g.cell (aB _ _ l)).trans l;have aj:=(g.cell (aB _ _ m)).trans m;have ak:=(g.cell (aB _ _ n)).trans n;have al:=(g.cell (aB _ _ o)).trans o;have u:=b0.trans (g.mono b0.size);have X:=Aa (show An w2 v2 (withKey a b) from⟨AG o2,fun y d=>(W.out.V g).2 y (bN.1 d).1⟩);have Y:=Aa (show (withKey a b).length<=nl from by rw[<-q.out];exact bC _ _);have Z:=Aa (@Ux a b);have aa:=Aa (show ∀y∈withKey a b,y.key=b from fun y d=>by
  have:=(bN.1 d).2;exact Aed (by rw[<-bz,<-bz];exact of_decide_eq_true (by simpa using this)))
 have O:=Aa (show (∀y∈a,y.key=b)->withKey a b=a from fun h=>bW.2 fun y d=>by rw[h y d];exact beq_self_eq_true _);obtain⟨a2,c2,rfl,ab⟩:=Ak o2;clear o2 g ab L t D E F l m n o G H b0 s I;generalize P:(withKey a b).length=nw at *;have Q:=Aa P;clear P;have am:=Y.out;by_cases r:nw=0
 ·have ac:¬((0:Int)<(nw:Int)):=by omega
  have ad:decide (0<nw)=false:=decide_eq_false (by omega);have x:=Aa (show ¬EJ ⟨3,ck,cn,b,a.map LAt.I⟩ from fun h=>by
   obtain⟨h1,z⟩:=Ws.1 h;have i:=O.out (fun y d=>z _ (aT d));have j:=Q.out;rw[i,r]at j;exact h1 (by rw[aZ.1 j];rfl))
  clear r;go_wp2_with (go_at_call 173;refine(Cg (p:=p) N).mono ?_;rintro e w2 ⟨rfl,rfl⟩)
  exact⟨rfl,u,.inr ⟨x.out,rfl⟩⟩
 ·have ac:((0:Int)<(nw:Int)):=by omega
  have ad:decide (0<nw)=true:=decide_eq_true (by omega);by_cases h1:nw=nl
  ·have i:=Z.out (by rw[q.out];exact h1);have ae:=Aa (show EJ ⟨3,ck,cn,b,a.map LAt.I⟩ from Ws.2 ⟨fun e=>r (by rw[h1,<-q.out,bG.1 e];rfl),fun an f=>by
    obtain⟨y,d,rfl⟩:=bI.1 f;exact aa.out y (by rw[i];exact d)⟩)
   have af:=Aa (show An w2 (aC a2 nw c2) a from by have:=X.out;rw[i]at this;exact this);clear i r;have ag:(nw==nl)=true:=by simpa using h1
   have ah:((nw:Int)==(nl:Int))=true:=by rw[h1];exact beq_self_eq_true _
   clear h1;go_wp2_with (go_at_call 173;refine(D9 M _).mono ?_;rintro e w2 ⟨rfl,rfl⟩)
   refine bodyPost_ret (v:=.iface 188 (bS #[aA ck,aA cn,aA b,aC a2 nw c2])) (by simp[results,results131,go_sem]) rfl ⟨u,.inl ⟨ae.out,aC a2 nw c2,rfl,af.out⟩⟩
  ·have x:=Aa (show ¬EJ ⟨3,ck,cn,b,a.map LAt.I⟩ from fun h=>by
    obtain⟨_,z⟩:=Ws.1 h;have i:=O.out (fun y d=>z _ (aT d));have j:=Q.out;rw[i,q.out]at j;exact h1 j.symm)
   have ag:(nw==nl)=false:=by simpa using h1
   have ah:((nw:Int)==(nl:Int))=false:=beq_eq_false_iff_ne.2 (fun e=>h1 (by omega));go_wp2_with (go_at_call 173;refine(Cg (p:=p) N).mono ?_;rintro e w2 ⟨rfl,rfl⟩)
   exact⟨rfl,u,.inr ⟨x.out,rfl⟩⟩
theorem Abz{p:Int}{c:Bl}(a:w.cell? ⟨M,1,aH⟩=aG (.int .i64 p))(b:An w c.v c.ls)(d:c.ls.length<=1048576):Calls prog 131 #[aD (aG ⟨M,0,aH⟩),bS #[.int .i64 c.ak,aA c.aa,aA c.name,aA c.key,c.v]] w fun e w'=>Iq p c w e w':=by
 by_cases h1:c.ak=1
 ·exact YI a b d h1
 by_cases f:c.ak=2
 ·exact Abx a b d f
 by_cases g:c.ak=3
 ·exact Aby a b d g
 by_cases h:c.ak=4
 ·exact Wu a b d h
 exact Wt a b d h1 f g h
theorem YR(w0:World):UD w0.heap.size w0.heap.size [] (w0.alloc (aE #[aD aH,aC aH 0 0] 102)):=by
 refine .inl ⟨aM _,aC aH 0 0,?_,World.ownsRowF_nil _ _ _ _,?_⟩
 ·unfold bD;simp
 ·intro e;cases e
theorem Lz{b:Nat}{l:List UInt8}(h:UD B b l w)(a:l≠[]):Calls prog 71 #[aD (aG ⟨b,0,aH⟩)] w fun e w'=>e=aR (aA ⟨l.toArray⟩)/\Ee B b l w w':=by
 refine(T5 B b l w h a).mono ?_;rintro e w' ⟨rfl,h1,c,d⟩;exact⟨rfl,h1,c,d⟩
theorem YT{bs:List PBlock}(h:AJ bs=false):printL bs=[]:=by unfold printL;rw[if_pos (.inl h)]
theorem UA{bs:List PBlock}(h:Bi (sheetL bs)):printL bs=[]:=by unfold printL;rw[if_pos (.inr h)]
theorem WG{bs:List PBlock}(h:AJ bs=true)(a:¬Bi (sheetL bs)):printL bs=sheetL bs:=by
 unfold printL;rw[if_neg];rintro(e | e)
 ·rw[h]at e;cases e
 ·exact a e
theorem OP(A:As w v bs)(q:Ax bs)(ad:BJ w):Calls prog 20 #[bS #[v]] w fun e w'=>e=aR (aA ⟨(printL (bs.map BAt.I)).toArray⟩)/\Below w.heap.size w w':=by
 obtain⟨J,K,rfl⟩:=A.1.ae;have a4:=q.1;have b0:Below w.heap.size w (w.alloc (aE #[aC J bs.length K] 25)):=(aN _ _).alloc (aM _) _;have B:=A3 (w:=w) (cs:=#[aC J bs.length K]) (T:=25) 0;simp only[aO,aL]at B;have r:=Cs (A.V b0) q (ad.V b0);have ae:=Aa (A.V b0);have al:=Aa q;clear A ad;generalize L:bs.length=n at *;generalize C:bs.map BAt.I=a at *;have am:=Aa C;have an:=Aa L;have M:=Aa (show a.length=n by rw[<-C,aV,L]);have ao:=Aa (show ∀b∈a,b.ac.length<=1048576 by
  intro b af;rw[<-C]at af;obtain⟨x,ap,rfl⟩:=bI.1 af;have:=(q.2 x ap).2.1;simpa [BAt.I] using this)
 clear C L q;cases o:AJ a with
 | false =>
  rw[YT o];rw[o]at r;go_enter func20,ntmps20;go_wp2_with (go_at_call 19;refine r.mono ?_)
  first | rintro e w2 rfl k | rintro e w2 ⟨rfl,k⟩
  go_wp2;go_ret;exact⟨rfl,b0.trans (k.mono b0.size)⟩
 | true =>
  rw[o]at r;have ag:=A0.1 o;have s:=Ym ag ao.out;have E:=Aa (fun h=>WG o h);have N:=Aa (fun h=>UA (bs:=a) h);clear ag o;go_enter func20,ntmps20;go_wp2_with (go_at_call 19;refine r.mono ?_)
  first | rintro e w2 rfl k | rintro e w2 ⟨rfl,k⟩
  clear r;generalize aq:w.alloc (aE #[aC J n K] 25)=w1 at *;clear aq;have O:=Aa (ae.out.V k);have P:=(k.cell (p:=⟨w.heap.size,0,aH⟩) (aB w1 _ B)).trans B;have Q:=b0.trans (k.mono b0.size);clear ae B k b0;have ar:=YR w2;have au:(w2.alloc (aE #[aD aH,aC aH 0 0] 102)).heap[w2.heap.size]?=aG (aE #[aD aH,aC aH 0 0] 102):=by unfold bD;simp
  have ah:Below w2.heap.size w2 (w2.alloc (aE #[aD aH,aC aH 0 0] 102)):=(aN _ _).alloc (aM _) _;have a5:=(ah.cell (p:=⟨w.heap.size,0,aH⟩) (aB w2 _ P)).trans P;clear P;go_wp2;go_loopw [12] (fun i wr=>∃j:Nat,j<=n/\i=.int .i64 (j:Int)/\Below w2.heap.size w2 wr/\UD w2.heap.size w2.heap.size (sheetL (a.take j)) wr/\(j=0->wr.heap[w2.heap.size]?=aG (aE #[aD aH,aC aH 0 0] 102))) (fun i _=>n-(intOf i).toNat)
  case atStart=>exact⟨0,by omega,rfl,ah,by simpa [sheetL] using ar,fun _=>au⟩
  case round =>
   obtain⟨j,a6,rfl,d,F,t⟩:=hrel;by_cases a7:j<n
   ·obtain⟨D,y,T,R,ai⟩:=AS bs j (by have:=an.out;omega);have S:=O.out;rw[R]at S;obtain⟨g,off,rfl,c3,c4,c5⟩:=S.1.block;have U:y∈bs:=by rw[R];simp
    obtain⟨av,aw,V⟩:=(O.out.2 y U).1.ae;rw[ai]at c3 c4 c5;rw[V]at c5;have a8:=(d.cell (aB w2 _ c3)).trans c3;have a9:=(d.cell (aB w2 _ c4)).trans c4;have ba:=(d.cell (aB w2 _ c5)).trans c5;have ax:a[j]?=aG y.I:=by rw[<-am.out,R,<-ai];simp
    have aj:=Aa (QB a j y.I ax);have X:=aK (V5 a (j+1)) s;rw[aj.out,aF]at X;have G:Below wr.heap.size wr (wr.alloc (aE #[aA y.aa,aA y.name,aC av y.ls.length aw] 46)):=(aN wr.heap.size wr).alloc (aM _) _;have Y:=N6 rfl (O.out.2 y U) (d.trans (G.mono d.size)) (F.gr G) X (al.out.2 y U).2;rw[V]at Y;have bb:(j:Int)<(n:Int):=by omega
    have i0:(0:Int)<=(j:Int):=by omega
    have ay:=Aa (d.trans (G.mono d.size));clear c3 c4 c5 S V G t s X;generalize az:sheetL (a.take (j+1))=bc at *;generalize sheetL (a.take j)=bd at *;generalize y.ls.length=be at *;generalize blockL y.I=bf at *;generalize y.aa=yk at *;generalize y.name=yn at *;go_wp2_with (go_at_call 69;refine Y.mono ?_)
    first | rintro e w3 rfl W3 | rintro e w3 ⟨rfl,W3⟩
    clear Y;go_wp2;go_roundw;case rel=>exact⟨j+1,by omega,by go_num,ay.out.trans W3.2.1,by rw[az,aj.out];exact W3.1,fun h=>by omega⟩
    case measure=>simp[intOf];omega
   ·obtain rfl:j=n:=by omega
    rw[show a.take j=a by rw[List.take_of_length_le (by rw[M.out];exact aM _)]]at F;have Z:=Aa (Q.trans (d.mono Q.size));have bg:=Aa d;have aa:=Q.size;by_cases ab:j=0
    ·have ac:=t ab;have a0:a=[]:=List.eq_nil_of_length_eq_zero (by rw[M.out,ab]);have c:printL a=[]:=by
      have:sheetL a=[]:=by rw[a0];rfl
      rw[<-this];exact E.out (by rw[this];unfold Bi;simp[A9,Cd])
     replace c:=Aa c;have u:=Ld w2.heap.size w2.heap.size wr ac;have m:=Hu ⟨#[]⟩ wr.drew (by decide);have H:=Ld w2.heap.size w2.heap.size wr.drew ac;have f:decide (Bi (⟨#[]⟩:ByteArray).data.toList)=false:=by unfold Bi;simp[A9,Cd]
     rw[f]at m;clear ac s f t F;go_wp2_with (first | (go_at_call 70;refine m.mono ?_;rintro e w ⟨rfl,rfl⟩) | (go_at_call 71;refine u.mono ?_;rintro e w ⟨rfl,rfl⟩) | (go_at_call 71;refine H.mono ?_;rintro e w ⟨rfl,rfl⟩))
     go_ret;exact⟨by rw[c.out];rfl,Z.out.drew.drew⟩
    ·have I:sheetL a≠[]:=Yo (fun e=>by have:=M.out;rw[e]at this;exact ab this.symm);have u:=Lz F I;have m:=fun W=>Hu ⟨(sheetL a).toArray⟩ W (by show (sheetL a).toArray.size<=_;rw[List.size_toArray];omega)
     have H:=fun(W:World) (a1:UD w2.heap.size w2.heap.size (sheetL a) W)=>Lz a1 I
     by_cases f:Bi (sheetL a)
     ·have c:=N.out f;replace c:=Aa c;have z:decide (Bi (⟨(sheetL a).toArray⟩:ByteArray).data.toList)=true:=decide_eq_true f;simp only[z]at m;clear z f I s t N E;generalize sheetL a=l at *;go_wp2_with (go_at_call 71;refine u.mono ?_)
      first | rintro e w3 rfl W3 | rintro e w3 ⟨rfl,W3⟩
      go_wp2_with (go_at_call 70;refine(m _).mono ?_;rintro e w ⟨rfl,rfl⟩)
      go_ret;exact⟨by rw[c.out];rfl,Z.out.trans (W3.2.1.mono aa)⟩
     ·have c:=E.out f;replace c:=Aa c;have z:decide (Bi (⟨(sheetL a).toArray⟩:ByteArray).data.toList)=false:=decide_eq_false f;simp only[z]at m;clear z f I s t N E;generalize sheetL a=l at *;go_wp2_with (go_at_call 71;refine u.mono ?_)
      first | rintro e w3 rfl W3 | rintro e w3 ⟨rfl,W3⟩
      have a2:=H w3 W3.1;clear u H;go_wp2_with (first | (go_at_call 70;refine(m _).mono ?_;rintro e w ⟨rfl,rfl⟩) | (go_at_call 71;refine a2.mono ?_))
      first | rintro e a3 rfl ak | rintro e a3 ⟨rfl,ak⟩
      go_wp2;go_ret;exact⟨by rw[c.out];rfl,(Z.out.trans (W3.2.1.mono aa)).trans (ak.2.1.mono aa)⟩
def Own(B:Nat)(w:World)(v:Value)(l:List UInt8):Prop:=w.ownsRow B 5 1 v l.length (aJ l)
theorem Sp(P:List PBlock):∃Q,Ep (printL P)=.good Q/\(printL P≠[]->Cv Q=P)/\(printL P).length<=20000:=by
 by_cases h:AJ P=false\/Bi (sheetL P)
 ·refine⟨[],?_,fun c=>absurd (if_pos h) c,?_⟩
  ·rw[show printL P=[] from if_pos h];have d:¬Bi []:=by unfold Bi;rw[IE];simp
   rw[Ko d,IE];rfl
  ·rw[show printL P=[] from if_pos h];simp
 ·have a:Am P:=A0.1 (by cases f:AJ P with | false=>exact absurd (.inl f) h | true=>rfl)
  have b:¬Bi (sheetL P):=fun e=>h (.inr e)
  have e:printL P=sheetL P:=if_neg h;rw[e];refine⟨P,SM a b,fun _=>X8 a,?_⟩;unfold Bi at b;omega
theorem Ad1(w:World)(x:Value):Below w.heap.size w ((w.alloc (aE #[x] 25)).alloc (aE #[.int .i64 0,.int .i64 0] 38))/\((w.alloc (aE #[x] 25)).alloc (aE #[.int .i64 0,.int .i64 0] 38)).cell? ⟨w.heap.size,0,aH⟩=aG x/\((w.alloc (aE #[x] 25)).alloc (aE #[.int .i64 0,.int .i64 0] 38)).cell? ⟨w.heap.size+1,1,aH⟩=aG (.int .i64 0):=by
 have b0:=(aN w.heap.size w).alloc (aM _) (aE #[x] 25);have a:=(aN (w.alloc (aE #[x] 25)).heap.size (w.alloc (aE #[x] 25))).alloc (aM _) (aE #[.int .i64 0,.int .i64 0] 38);have z0:=Al w (aE #[x] 25);have d:=Al (w.alloc (aE #[x] 25)) (aE #[.int .i64 0,.int .i64 0] 38);have b:=Ab ((a.block w.heap.size (by simp)).trans z0) 0;have c:=Ab d 1;simp only[aO,aL,aP,World.size_alloc]at b c;exact⟨b0.trans (a.mono b0.size),b,c⟩
