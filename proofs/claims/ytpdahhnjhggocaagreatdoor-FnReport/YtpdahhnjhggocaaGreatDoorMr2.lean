import Derived.Test.YtpdahhnjhggocaaGreatDoorMr1
import Derived.Deep.RegionLaw
import Derived.MapKept
import Derived.WideMake
open Go.Proofs.Tryz
open Go.Value renaming slice->aA,slice->aN,oneCell'->bJ
open Option renaming none->aB,some->aC
open Nat renaming le_refl->aD,le_of_lt->aO,le_succ->aR,lt_succ_self->aU,le_trans->bx
open Go.Obj renaming cells->aE
open Go.RowKit.Below renaming refl->aF
open Go.World renaming size_alloc->aG,ownsRow_lit->aH,block_lt_of_cell?->aM,ownsRow_nil->aP,news_of_block->aZ
open Go.Instr renaming findNow->aI,lookup->aV,checkKey->bs,mapUpdate->bI,sameNow->bK
open Array renaming getElem?_eq_some_iff->aJ,length_toList->aL,toList_inj->bH
open Go.Lib renaming cell_of_heap->aK,frozen_of_heap->bG
open Go.Ending renaming returned->aQ
open Go renaming heap_alloc_new->aS,maxLen->bp,MapEntry->bq,run_underlying->bu,TypeId->bv,wpList_append_lies->bL,wpList->bM,info_parts->bN,step_append_lies->bR
open Go.MapKept renaming run_getObj_map->aT,run_checkKey->aW,run_findKey->aY,IsKey->br,bytes_beq->bz,heap_set->bA
open Go.Result renaming andThen->aX
open List renaming flatMap_cons->bn,length_reverse->bB,mem_singleton->bD,length_append->bE,mem_cons->bO,mem_map->bQ
open Go.ByteArray renaming toList_eq->bt
open Go.Op renaming insert->bw
open List.Perm renaming swap->bC
open ByteArray renaming ext->bF
open Go.Oper renaming mk->bP
open Go.World.ownsRow renaming kept->bS
namespace Go.Proofs.YtpdahhnjhggocaaGreatDoor
open Go.RowKit
set_option maxHeartbeats 16000000
set_option maxRecDepth 100000
variable {w w1 w' wr w3:World}{cs:Array Value}{ns:List Int}{many:Bool}{ao bo:Option Addr}{ca cb B n:Nat}{v:Value}{xs:List Value}
def Ul:List UInt8->List UInt8->List (List UInt8)
 | a,[]=>[a]
 | a,c::r=>if c.toNat=32 then a::Ul [] r else Ul (a++[c]) r
theorem Ac4:(Tryz.prog.info? 3).map (fun i=>(i.zero,i.size,i.bytes))=aC (aC (.int .i64 0),1,8):=by kernel_rfl
def Yy(key:ByteArray)(ns:List Int)(many:Bool)(ds:List (List UInt8))(w:World)(e:Ending)(w':World):Prop :=
 ∃ao ca bo cb,e=aQ (.agg #[.string key,aA ao ns.length ca,.bool many,aA bo ds.length cb]) /\
  Ay w.heap.size w' [⟨aA ao ns.length ca,3,1,ns.length,Cw ns⟩,⟨aA bo ds.length cb,9,1,ds.length,strs ds⟩]/\Below w.heap.size w w'
theorem Sb{T:bv}{key:ByteArray}{ds:List (List UInt8)}(f:w1.ownsRow (w.heap.size+1) 3 1 (aA ao ns.length ca) ns.length (Cw ns))(g:w1.ownsRow (w.heap.size+1) 9 1 (aA bo ds.length cb) ds.length (strs ds))
  (i:(aN ao ns.length ca).ownBlock=aB\/(aN ao ns.length ca).ownBlock≠(aN bo ds.length cb).ownBlock) (j:Below (w.heap.size+1) (w.alloc (aE cs T)) w1) (x0 x1 a b:Value) :
  Yy key ns many ds w (aQ (.agg #[.string key,aA ao ns.length ca,.bool many,aA bo ds.length cb])) ((((w1.setCell ⟨w.heap.size,0,aB⟩ x0).setCell ⟨w.heap.size,1,aB⟩ x1).setCell ⟨w.heap.size,2,aB⟩ a).setCell ⟨w.heap.size,3,aB⟩ b):=by
 have d:∀ {e:bv} {v:Value} {n:Nat} {xs:List Value},w1.ownsRow (w.heap.size+1) e 1 v n xs->((((w1.setCell ⟨w.heap.size,0,aB⟩ x0).setCell ⟨w.heap.size,1,aB⟩ x1).setCell ⟨w.heap.size,2,aB⟩ a).setCell ⟨w.heap.size,3,aB⟩ b).ownsRow w.heap.size e 1 v n xs:=fun h =>
  C3 (Bo (Bo (Bo (Bo h ⟨w.heap.size,0,aB⟩ (aU _) x0) ⟨w.heap.size,1,aB⟩ (aU _) x1) ⟨w.heap.size,2,aB⟩ (aU _) a) ⟨w.heap.size,3,aB⟩ (aU _) b) (aR _)
 refine⟨ao,ca,bo,cb,rfl,⟨fun r c=>?_,by simpa using i⟩,?_⟩
 ·rcases bO.1 c with rfl|c
  ·exact d f
  ·rw[bD.1 c];exact d g
 ·exact((((((aF _ w).alloc (aD _) _).trans (j.mono (aR _))).setCell (by simp) _).setCell (by simp) _).setCell (by simp) _).setCell (by simp) _
theorem Um(key:ByteArray)(ns:List Int)(h m:Nat)(w:World)(n:ns.length=m)(o:0<m)(F:m<=100)(d:∀j u,(Cw ns)[j]?=aC u->w.cell? ((⟨h,0,aB⟩:Addr).add j)=aC u):
  Calls prog 118 #[.string key,aA (aC ⟨h,0,aB⟩) m m] w fun e w'=>Yy key ns true [] w e w':=by
 obtain⟨i0,p,q,r,s⟩:=bN Ac4;go_enter func118,ntmps118;have W1:Below w.heap.size w ((w.alloc (aE #[.string ⟨#[]⟩,aA aB 0 0,.bool false,aA aB 0 0] 54)).alloc (aE #[] 3)):=((aF _ w).alloc (aD _) _).alloc (by simp) _;have f:∀j u,(Cw ns)[j]?=aC u->((w.alloc (aE #[.string ⟨#[]⟩,aA aB 0 0,.bool false,aA aB 0 0] 54)).alloc (aE #[] 3)).cell? ((⟨h,0,aB⟩:Addr).add j)=aC u:=fun j u b=>by
  have i:=d j u b;rw[W1.cell (aM w _ i)];exact i
 have c:=aH (base:=w.heap.size+1) (e:=3) (size:=1) (w.alloc (aE #[.string ⟨#[]⟩,aA aB 0 0,.bool false,aA aB 0 0] 54)) #[] 0 (by simp) (by decide) rfl;simp only[aG]at c;go_wp2_with (at_builtin;refine bL _ rfl _ _ 51 rfl (w.heap.size+1) 3 i0 (.int .i64 0) 1 8 underlying51 p q r s rfl (by decide) _ 0 [] rfl c ⟨h,0,aB⟩ m m (Cw ns) rfl (by rw[DO];omega) f ?c2 o ?c3 ?c4 ?c5 (w.heap.size+1+1) (by simp) ?_)
 case c2=>intro u b;simp only[Cw,bQ]at b;obtain⟨G,_,rfl⟩:=b;rfl
 case c3=>unfold bp;omega
 case c4=>omega
 case c5=>simp
 intro g t w1 x l y H;have a:Below (w.heap.size+1) (w.alloc (aE #[.string ⟨#[]⟩,aA aB 0 0,.bool false,aA aB 0 0] 54)) w1:=((aF _ (w.alloc (aE #[.string ⟨#[]⟩,aA aB 0 0,.bool false,aA aB 0 0] 54))).alloc (by simp) _).grown l (by simp) (fun k z=>(c.lt k z).1);have A:=a.size;simp only[aG]at A;have B:w1.cell? ⟨w.heap.size,0,aB⟩=aC (.string ⟨#[]⟩):=by rw[a.cell (by simp)];simp
 have C:w1.cell? ⟨w.heap.size,1,aB⟩=aC (aA aB 0 0):=by rw[a.cell (by simp)];simp
 have D:w1.cell? ⟨w.heap.size,2,aB⟩=aC (.bool false):=by rw[a.cell (by simp)];simp
 have E:w1.cell? ⟨w.heap.size,3,aB⟩=aC (aA aB 0 0):=by rw[a.cell (by simp)];simp
 have I:w1.frozen? ⟨w.heap.size,0,aB⟩=false:=by rw[a.frozen (by simp)];simp
 have J:w1.frozen? ⟨w.heap.size,1,aB⟩=false:=by rw[a.frozen (by simp)];simp
 have K:w1.frozen? ⟨w.heap.size,2,aB⟩=false:=by rw[a.frozen (by simp)];simp
 have L:w1.frozen? ⟨w.heap.size,3,aB⟩=false:=by rw[a.frozen (by simp)];simp
 clear W1 f d l y c;go_wp2;refine bodyPost_ret (v:=.agg #[.string key,aA (aC ⟨g,0,aB⟩) m t,.bool true,aA aB 0 0]) (by simp[results,results118,go_sem,B,C,D,E]) rfl ?_;subst n;exact Sb x (aP _ _ _ _) (Or.inr (by simp[Value.ownBlock])) a _ _ _ _
theorem Ac5{p:Addr}(o:Obj)(a:w.cell? p=aC v)(c:w.frozen? p=false):(w.alloc o).drew.cell? p=aC v/\(w.alloc o).drew.frozen? p=false:=by
 have b:=aM w p a;have h:=(((aF w.heap.size w).alloc (aD _) o).drew);exact⟨(h.cell b).trans a,(h.frozen b).trans c⟩
theorem VL{p:Addr}{row:Option Nat}(h:w.cell? p=aC v/\w.frozen? p=false)(a:w.grownBy w' row)(b:aC p.block≠row):w'.cell? p=aC v/\w'.frozen? p=false:=by
 have c:=aM w p h.1;exact⟨(a.cell_far p c b).trans h.1,(a.frozen_far p c b).trans h.2⟩
theorem Sc(a:List UInt8)(c:UInt8)(r:List UInt8)(h:c.toNat≠32):Ul a (c::r)=Ul (a++[c]) r:=by rw[Ul,if_neg h]
theorem Pe(a:List UInt8)(c:UInt8)(r:List UInt8)(h:c.toNat=32):Ul a (c::r)=a::Ul [] r:=by rw[Ul,if_pos h]
theorem Je(s:ByteArray)(k j:Nat):s.extract k j=⟨((s.data.toList.drop k).take (j-k)).toArray⟩:=by
 apply bF;apply bH.1;rw[Lib.extract_data]
theorem Sd(s:ByteArray)(k j:Nat)(a:k<=j)(h:j<s.size):(s.data.toList.drop k).take (j+1-k)=(s.data.toList.drop k).take (j-k)++[s[j]]:=by
 rw[show j+1-k=(j-k)+1 from by omega,List.take_succ_eq_append_getElem (by simp;omega)];congr 2;simp only[List.getElem_drop];have:k+(j-k)=j:=by omega
 simp only[this];rfl
theorem Se{o:Obj}{row:Option Nat}{a b c d:Value}{T:bv}(f:wr.heap[B]?=aC (aE #[a,b,c,d] T (0,0)))(g:(wr.alloc o).drew.grownBy w3 row)(h:∀k,row=aC k->B+1<=k)(i:Below B w1 wr)
 (j:w3.ownsRow (B+1) 9 1 v n xs) (u:Value) :
   (w3.setCell ⟨B,3,aB⟩ u).heap[B]?=aC (aE #[a,b,c,u] T (0,0))/\(w3.setCell ⟨B,3,aB⟩ u).ownsRow (B+1) 9 1 v n xs/\Below B w1 (w3.setCell ⟨B,3,aB⟩ u):=by
  have l:B<wr.heap.size:=(aJ.1 f).1;have m:w3.heap[B]?=aC (aE #[a,b,c,d] T (0,0)):=by
   rw[g.block B (by simp;omega) (fun e=>by have:=h B e.symm;omega)];have:=(((aF wr.heap.size wr).alloc (aD _) o).drew).block B l;rw[this];exact f
  refine⟨?_,Bo j _ (by simp) _,?_⟩
  ·exact heap_setCell_same w3 B 3 #[a,b,c,d] T u m
  ·exact((((i.alloc (by omega) o).drew).grown g (by simp;omega) (fun k p=>by have:=h k p;omega))).setCell (by simp) _
theorem Wx(key value:ByteArray)(ns:List Int)(h m:Nat)(w:World)(Z:ns.length=m)(aa:0<m)(a2:m<=100)(a3:value.size<=100)(M:∀j u,(Cw ns)[j]?=aC u->w.cell? ((⟨h,0,aB⟩:Addr).add j)=aC u):
  Calls prog 117 #[.string key,.string value,aA (aC ⟨h,0,aB⟩) m m] w fun e w'=>Yy key ns false (Ul [] value.data.toList) w e w':=by
 obtain⟨i0,ab,ac,ad,ae⟩:=bN Ac4;obtain⟨N,n,O,P,Q⟩:=bN Jc;have W1:Below w.heap.size w ((w.alloc (aE #[.string ⟨#[]⟩,aA aB 0 0,.bool false,aA aB 0 0] 54)).alloc (aE #[] 3)):=((aF _ w).alloc (aD _) _).alloc (by simp) _;have R:∀j u,(Cw ns)[j]?=aC u->((w.alloc (aE #[.string ⟨#[]⟩,aA aB 0 0,.bool false,aA aB 0 0] 54)).alloc (aE #[] 3)).cell? ((⟨h,0,aB⟩:Addr).add j)=aC u:=fun j u y=>by
  have S:=M j u y;rw[W1.cell (aM w _ S)];exact S
 have z:=aH (base:=w.heap.size+1) (e:=3) (size:=1) (w.alloc (aE #[.string ⟨#[]⟩,aA aB 0 0,.bool false,aA aB 0 0] 54)) #[] 0 (by simp) (by decide) rfl;simp only[aG]at z;obtain⟨T,D⟩:∃T,Ul [] value.data.toList=T:=⟨_,rfl⟩;have af:Hid (Ul [] value.data.toList=T):=D;rw[D];clear D;go_enter func117,ntmps117;go_wp2_with (at_builtin;refine bL _ rfl _ _ 51 rfl (w.heap.size+1) 3 i0 (.int .i64 0) 1 8 underlying51 ab ac ad ae rfl (by decide) _ 0 [] rfl z ⟨h,0,aB⟩ m m (Cw ns) rfl (by rw[DO];omega) R ?c2 aa ?c3 ?c4 ?c5 (w.heap.size+1+1) (by simp) ?_)
 case c2=>intro u y;simp only[Cw,bQ]at y;obtain⟨a4,_,rfl⟩:=y;rfl
 case c3=>unfold bp;omega
 case c4=>omega
 case c5=>simp
 intro g A w1 ag U ah a5;have V:Below (w.heap.size+1) (w.alloc (aE #[.string ⟨#[]⟩,aA aB 0 0,.bool false,aA aB 0 0] 54)) w1:=((aF _ (w.alloc (aE #[.string ⟨#[]⟩,aA aB 0 0,.bool false,aA aB 0 0] 54))).alloc (by simp) _).grown U (by simp) (fun k W=>(z.lt k W).1);have X:=V.size;simp only[aG]at X;clear W1 R M U ah z;go_wp2;go_loopw [8,9] (fun x i wr=>∃(f k:Nat) (ws:List (List UInt8)) (bo:Option Addr) (cb:Nat),x=.int .i64 (f:Int)/\i=.int .i64 (k:Int)/\k<=value.size+1/\ws.length<=k/\f<=k/\wr.heap[w1.heap.size]?=aC (aE #[.string key,aA (aC ⟨g,0,aB⟩) m A,.bool false,aA bo ws.length cb] 54 (0,0))/\wr.ownsRow (w1.heap.size+1) 9 1 (aA bo ws.length cb) ws.length (strs ws)/\Below w1.heap.size w1 wr/\Hid (k<=value.size->ws++Ul ((value.data.toList.drop f).take (k-f)) (value.data.toList.drop k)=T)/\Hid (k=value.size+1->ws=T)) (fun _ i _=>value.size+1-(intOf i).toNat)
 case atStart=>exact⟨0,0,[],aB,0,rfl,rfl,by omega,by simp,by omega,aS w1 _,aP _ _ _ _,(aF _ _).alloc (aD _) _,fun _=>by simpa using af.out,fun h=>by omega⟩
 case round =>
  obtain⟨f,k,ws,bo,cb,rfl,rfl,W,a6,ai,a,b,o,d,p⟩:=hrel;have a7:w1.heap.size<wr.heap.size:=(aJ.1 a).1;by_cases E:k<=value.size
  ·by_cases aj:k=value.size
   ·have Y:((k:Int)==(value.size:Int))=true:=by rw[beq_iff_eq];omega
    have F:Hid (ws++[(value.data.toList.drop f).take (k-f)]=T):=by
     have:=d.out E;rw[List.drop_of_length_le (l:=value.data.toList) (i:=k) (by simp;omega)]at this;exact this
    have a8:value.size<=k:=by omega
    clear d p aj;have c3:wr.cell? ⟨w1.heap.size,3,aB⟩=aC (aA bo ws.length cb):=by rw[aK a];rfl
    have B:wr.frozen? ⟨w1.heap.size,3,aB⟩=false:=bG a 3;have ak:(0:Int)<=(f:Int):=by omega
    have al:(f:Int)<=(k:Int):=by omega
    have am:(k:Int)<=(value.size:Int):=by omega
    have G:(aC w1.heap.size:Option Nat)≠(aN bo ws.length cb).ownBlock:=fun h=>by have:=(b.lt _ h.symm).1;omega
    go_wp2;go_region_law ((refine bR _ (by rfl) _ _ _ (by rfl) (w1.heap.size+1) 9 N (.string ⟨#[]⟩) 1 16 underlying52 n O P Q rfl (by decide) (aA bo ws.length cb) ws.length (strs ws) (by rfl) ((b.alloc _).drew) ⟨wr.heap.size,0,aB⟩ 1 1 [.string (value.extract f k)] (by rfl) (by rfl) (aZ (cs:=#[.string (value.extract f k)]) (t:=9) (fr:=(0,0)) (aS wr _)) (by simp[bJ]) (by omega) (by unfold bp;omega) (by omega) (by simp;omega) (wr.heap.size+1) (by simp) ?_;intro g3 q w3 H r an ao;have s:=VL (Ac5 _ c3 B) r G;have ap:=s.1;have aq:=s.2))
    all_goals
     go_wp2;obtain⟨I,J,K⟩:=Se a r (fun j n=>(b.lt j n).1) o H (aA (aC ⟨g3,0,aB⟩) (ws.length+1) q);go_roundw;case rel=>exact⟨k+1,k+1,ws++[(value.data.toList.drop f).take (k-f)],aC ⟨g3,0,aB⟩,q,by go_num,by go_num,by omega,by simp;omega,by omega,by simpa using I,by simpa [strs,Je] using J,K,fun h=>by omega,fun _=>F.out⟩
     case measure=>simp[intOf];omega
   ·have L:k<value.size:=by omega
    by_cases C:value[k].toNat=32
    ·have ar:((value[k].toNat:Int)==32)=true:=by rw[beq_iff_eq];omega
     have Y:((k:Int)==(value.size:Int))=false:=by rw[beq_eq_false_iff_ne];omega
     have F:Hid (k+1<=value.size->(ws++[(value.data.toList.drop f).take (k-f)])++Ul ((value.data.toList.drop (k+1)).take (k+1-(k+1))) (value.data.toList.drop (k+1))=T):=fun _=>by
      have:=d.out E;rw[Bj value k L,Pe _ _ _ C]at this;simpa using this
     clear d p C;have c3:wr.cell? ⟨w1.heap.size,3,aB⟩=aC (aA bo ws.length cb):=by rw[aK a];rfl
     have B:wr.frozen? ⟨w1.heap.size,3,aB⟩=false:=bG a 3;have ak:(0:Int)<=(f:Int):=by omega
     have al:(f:Int)<=(k:Int):=by omega
     have am:(k:Int)<=(value.size:Int):=by omega
     have G:(aC w1.heap.size:Option Nat)≠(aN bo ws.length cb).ownBlock:=fun h=>by have:=(b.lt _ h.symm).1;omega
     go_wp2;go_region_law ((refine bR _ (by rfl) _ _ _ (by rfl) (w1.heap.size+1) 9 N (.string ⟨#[]⟩) 1 16 underlying52 n O P Q rfl (by decide) (aA bo ws.length cb) ws.length (strs ws) (by rfl) ((b.alloc _).drew) ⟨wr.heap.size,0,aB⟩ 1 1 [.string (value.extract f k)] (by rfl) (by rfl) (aZ (cs:=#[.string (value.extract f k)]) (t:=9) (fr:=(0,0)) (aS wr _)) (by simp[bJ]) (by omega) (by unfold bp;omega) (by omega) (by simp;omega) (wr.heap.size+1) (by simp) ?_;intro g3 q w3 H r an ao;have s:=VL (Ac5 _ c3 B) r G;have ap:=s.1;have aq:=s.2))
     all_goals
      go_wp2;obtain⟨I,J,K⟩:=Se a r (fun j n=>(b.lt j n).1) o H (aA (aC ⟨g3,0,aB⟩) (ws.length+1) q);go_roundw;case rel=>exact⟨k+1,k+1,ws++[(value.data.toList.drop f).take (k-f)],aC ⟨g3,0,aB⟩,q,by go_num,by go_num,by omega,by simp;omega,by omega,by simpa using I,by simpa [strs,Je] using J,K,F,fun h=>by omega⟩
      case measure=>simp[intOf];omega
    ·have ar:((value[k].toNat:Int)==32)=false:=by rw[beq_eq_false_iff_ne];omega
     have Y:((k:Int)==(value.size:Int))=false:=by rw[beq_eq_false_iff_ne];omega
     have au:Hid (k+1<=value.size->ws++Ul ((value.data.toList.drop f).take (k+1-f)) (value.data.toList.drop (k+1))=T):=fun _=>by
      have:=d.out E;rw[Bj value k L,Sc _ _ _ C]at this;rw[Sd value f k ai L];exact this
     clear d p C;go_wp2;go_roundw;case rel=>exact⟨f,k+1,ws,bo,cb,rfl,by go_num,by omega,by omega,by omega,a,b,o,au,fun h=>by omega⟩
     case measure=>simp[intOf];omega
  ·have av:=p.out (by omega);subst av;have c0:wr.cell? ⟨w1.heap.size,0,aB⟩=aC (.string key):=by rw[aK a];rfl
   have a9:wr.cell? ⟨w1.heap.size,1,aB⟩=aC (aA (aC ⟨g,0,aB⟩) m A):=by rw[aK a];rfl
   have c2:wr.cell? ⟨w1.heap.size,2,aB⟩=aC (.bool false):=by rw[aK a];rfl
   have c3:wr.cell? ⟨w1.heap.size,3,aB⟩=aC (aA bo ws.length cb):=by rw[aK a];rfl
   have c:=V.trans (o.mono X);have aw:wr.cell? ⟨w.heap.size,0,aB⟩=aC (.string ⟨#[]⟩):=by rw[c.cell (by simp)];simp
   have ax:wr.cell? ⟨w.heap.size,1,aB⟩=aC (aA aB 0 0):=by rw[c.cell (by simp)];simp
   have ay:wr.cell? ⟨w.heap.size,2,aB⟩=aC (.bool false):=by rw[c.cell (by simp)];simp
   have az:wr.cell? ⟨w.heap.size,3,aB⟩=aC (aA aB 0 0):=by rw[c.cell (by simp)];simp
   have ba:wr.frozen? ⟨w.heap.size,0,aB⟩=false:=by rw[c.frozen (by simp)];simp
   have bb:wr.frozen? ⟨w.heap.size,1,aB⟩=false:=by rw[c.frozen (by simp)];simp
   have bc:wr.frozen? ⟨w.heap.size,2,aB⟩=false:=by rw[c.frozen (by simp)];simp
   have B:wr.frozen? ⟨w.heap.size,3,aB⟩=false:=by rw[c.frozen (by simp)];simp
   have a0:=AI ag o;have a1:(aN (aC ⟨g,0,aB⟩) ns.length A).ownBlock≠(aN bo ws.length cb).ownBlock:=fun h=>by
    have h1:=(b.lt g (by rw[<-h];rfl)).1;omega
   clear d p;go_wp2;subst Z;exact bodyPost_ret (v:=.agg #[.string key,aA (aC ⟨g,0,aB⟩) ns.length A,.bool false,aA bo ws.length cb]) (by simp[results,results117,go_sem,aw,ax,ay,az]) rfl (Sb a0 (C3 b (by omega)) (Or.inr a1) c _ _ _ _)
variable {w0:World}{va:Value}{m:Nat}
structure AL where
 key:ByteArray
 va:Value
 ns:List Int
 many:Bool
 vd:Value
 ds:List (List UInt8)
abbrev Plain:=ByteArray × List Int × Bool × List (List UInt8)
def AL.cells(r:AL):List Value:=[.string r.key,r.va,.bool r.many,r.vd]
def AL.rows(r:AL):List MRow:=[⟨r.va,3,1,r.ns.length,Cw r.ns⟩,⟨r.vd,9,1,r.ds.length,strs r.ds⟩]
def AL.I(r:AL):Plain:=(r.key,r.ns,r.many,r.ds)
def Bh(B:Nat)(w:World)(v:Value)(L:List AL):Prop:=Ay B w (⟨v,54,4,L.length,L.flatMap AL.cells⟩::L.flatMap AL.rows)
def Ef(R:List Plain)(w:World)(e:Ending)(w':World):Prop:=∃v L,e=aQ v/\L.map AL.I=R/\Bh w.heap.size w' v L/\Below w.heap.size w w'
def teamRules:List Plain:=[(⟨#[99,111,112,105,101,115]⟩,[1],false,[[49,48,48]]),(⟨#[114,111,111,109]⟩,[1],false,[[49,48,48,48]])]
def berthRules:List Plain:=[(⟨#[122,111,110,101]⟩,[3],false,[[122]]),(⟨#[114,111,111,109]⟩,[1],false,[[49,48,48]]),(⟨#[104,111,108,100]⟩,[1],false,[[49,48,48]]),(⟨#[109,97,114,107]⟩,[3],true,[])]
def serviceRules:List Plain:=[(⟨#[116,101,97,109]⟩,[3],false,[[99,111,114,101]]),(⟨#[105,109,97,103,101]⟩,[1],false,[[49]]),(⟨#[119,97,110,116]⟩,[1],false,[[49]]),(⟨#[100,111,119,110]⟩,[1],false,[[49]]),(⟨#[111,118,101,114]⟩,[1],false,[[48]]),(⟨#[110,101,101,100,115]⟩,[1,1],false,[[49],[49]]),(⟨#[119,104,101,114,101]⟩,[4],false,[[]]),(⟨#[108,105,107,101]⟩,[4,2],true,[]),(⟨#[97,112,97,114,116]⟩,[6],false,[[110,111,110,101]]),(⟨#[118,111,108,117,109,101]⟩,[5],false,[[110,111]]),(⟨#[102,111,108,108,111,119]⟩,[1,1,1],false,[[48],[48],[48]]),(⟨#[112,97,99,101]⟩,[1,1,1],false,[[48],[48],[48]])]
def rulesOf(kind:ByteArray):List Plain:=if kind.toList=[116,101,97,109] then teamRules else if kind.toList=[98,101,114,116,104] then berthRules else if kind.toList=[115,101,114,118,105,99,101] then serviceRules else []
structure LR(w0 w:World)(L:List AL):Prop where
 mem:Ay w0.heap.size w (L.flatMap AL.rows)
 V:Below w0.heap.size w0 w
theorem LR.nil(w:World):LR w w []:=⟨Ay.nil _ _,aF _ _⟩
theorem LR.call{L:List AL}(h:LR w0 w L)(key:ByteArray)(many:Bool){a:Value}{ds:List (List UInt8)}(c:Ay w.heap.size w' [⟨va,3,1,ns.length,Cw ns⟩,⟨a,9,1,ds.length,strs ds⟩]/\ns.length=n/\ds.length=m)(b:Below w.heap.size w w'):
  LR w0 w' (⟨key,va,ns,many,a,ds⟩::L) :=
 ⟨h.mem.join c.1 b h.V.size,h.V.trans (b.mono h.V.size)⟩
theorem LR.done{L:List AL}(h:LR w0 w L)(cs:Array Value)(n:Nat)(b:L.length=n)(c:cs.toList=L.reverse.flatMap AL.cells)(k:n<=100):
  Bh w0.heap.size (w.alloc (aE cs 54)) (aA (aC ⟨w.heap.size,0,aB⟩) n n) L.reverse/\Below w0.heap.size w0 (w.alloc (aE cs 54)):=by
 have d:=(aF w.heap.size w).alloc (aD _) (aE cs 54);have f:∀M:List AL,(M.flatMap AL.cells).length=M.length*4:=fun M=>by
  induction M with
  | nil=>rfl
  | cons a M g=>rw[bn,bE,g];simp[AL.cells];omega
 have i:=aH (base:=w.heap.size) (e:=54) (size:=4) w cs n (by omega) (by unfold bp;omega) (by rw[<-aL,c,f,bB,b]);refine⟨?_,h.V.trans (d.mono h.V.size)⟩;have j:Ay w0.heap.size w (L.reverse.flatMap AL.rows):=h.mem.perm ((List.reverse_perm L).symm.flatMap_right _);unfold Bh;refine j.cons ?_ d h.V.size;unfold MRow.isAt;simp only[bB,b];rw[<-c];exact i
theorem LR.post{L:List AL}{R:List Plain}(h:LR w0 w L)(cs:Array Value)(n:Nat)(a:L.length=n)(b:cs.toList=L.reverse.flatMap AL.cells)(d:L.reverse.map AL.I=R)(c:n<=100:=by decide):
  Ef R w0 (aQ (aA (aC ⟨w.heap.size,0,aB⟩) n n)) (w.alloc (aE cs 54)) :=
 ⟨_,_,rfl,d,(h.done cs n a b c).1,(h.done cs n a b c).2⟩
theorem Sf(w:World)(ns:List Int)(cs:Array Value)(a:cs.toList=Cw ns):∀j u,(Cw ns)[j]?=aC u->(w.alloc (aE cs 3)).cell? ((⟨w.heap.size,0,aB⟩:Addr).add j)=aC u:=by
 rw[<-a];exact aZ (cs:=cs) (t:=3) (fr:=(0,0)) (aS w _)
theorem Cl(key value:ByteArray)(ns:List Int)(ds:List (List UInt8))(w:World)(n m K:Nat)(c:w.heap.size=K)(d:ns.length=n)(f:ds.length=m)(g:Ul [] value.data.toList=ds)(h:0<n)(h1:n<=100)(i:value.size<=100)(j:cs.toList=Cw ns:=by rfl):
  Calls prog 117 #[.string key,.string value,aA (aC ⟨K,0,aB⟩) n n] (w.alloc (aE cs 3)) fun e w'=>∃ao ca bo cb,e=aQ (.agg #[.string key,aA ao n ca,.bool false,aA bo m cb]) /\
   (Ay w.heap.size w' [⟨aA ao n ca,3,1,ns.length,Cw ns⟩,⟨aA bo m cb,9,1,ds.length,strs ds⟩]/\ns.length=n/\ds.length=m)/\Below w.heap.size w w':=by
 subst c d f g;refine(Wx key value ns w.heap.size ns.length _ rfl h h1 i (Sf w ns cs j)).mono ?_;rintro e w' ⟨ao,ca,bo,cb,rfl,a,b⟩;rw[aG]at a b;exact⟨ao,ca,bo,cb,rfl,⟨a.mono (aR _),rfl,rfl⟩,((aF _ w).alloc (aD _) _).trans (b.mono (aR _))⟩
theorem Oq(key:ByteArray)(ns:List Int)(w:World)(n K:Nat)(c:w.heap.size=K)(d:ns.length=n)(f:0<n)(h1:n<=100)(g:cs.toList=Cw ns:=by rfl):
  Calls prog 118 #[.string key,aA (aC ⟨K,0,aB⟩) n n] (w.alloc (aE cs 3)) fun e w'=>∃ao ca bo cb,e=aQ (.agg #[.string key,aA ao n ca,.bool true,aA bo 0 cb]) /\
   (Ay w.heap.size w' [⟨aA ao n ca,3,1,ns.length,Cw ns⟩,⟨aA bo 0 cb,9,1,([]:List (List UInt8)).length,strs []⟩]/\ns.length=n/\([]:List (List UInt8)).length=0)/\Below w.heap.size w w':=by
 subst c d;refine(Um key ns w.heap.size ns.length _ rfl f h1 (Sf w ns cs g)).mono ?_;rintro e w' ⟨ao,ca,bo,cb,rfl,a,b⟩;rw[aG]at a b;exact⟨ao,ca,bo,cb,rfl,⟨a.mono (aR _),rfl,rfl⟩,((aF _ w).alloc (aD _) _).trans (b.mono (aR _))⟩
theorem LS(kind:ByteArray)(w:World)(f:(kind.toList==[116,101,97,109])=true):Calls prog 56 #[.string kind] w fun e w'=>Ef teamRules w e w':=by
  have a0:=LR.nil w;go_enter func56,ntmps56;go_wp2_with (go_at_call 117;refine(Cl ⟨#[99,111,112,105,101,115]⟩ ⟨#[49,48,48]⟩ [1] [[49,48,48]] w 1 1 w.heap.size rfl rfl rfl rfl (by decide) (by decide) (by decide)).mono ?_)
  rintro e w1 ⟨g,h,i,j,rfl,a,b⟩;have a1:=a0.call ⟨#[99,111,112,105,101,115]⟩ false a b;clear a0 a b;go_wp2_with (go_at_call 117;refine(Cl ⟨#[114,111,111,109]⟩ ⟨#[49,48,48,48]⟩ [1] [[49,48,48,48]] w1 1 1 w1.heap.size rfl rfl rfl rfl (by decide) (by decide) (by decide)).mono ?_)
  rintro e w2 ⟨k,l,m,n,rfl,c,d⟩;have a2:=a1.call ⟨#[114,111,111,109]⟩ false c d;clear a1 c d;go_wp2;go_ret;exact a2.post _ 2 rfl rfl rfl
theorem KW(kind:ByteArray)(w:World)(j:(kind.toList==[116,101,97,109])=false)(k:(kind.toList==[98,101,114,116,104])=true):Calls prog 56 #[.string kind] w fun e w'=>Ef berthRules w e w':=by
  have a0:=LR.nil w;go_enter func56,ntmps56;go_wp2_with (go_at_call 117;refine(Cl ⟨#[122,111,110,101]⟩ ⟨#[122]⟩ [3] [[122]] w 1 1 w.heap.size rfl rfl rfl rfl (by decide) (by decide) (by decide)).mono ?_)
  rintro e w1 ⟨l,m,n,o,rfl,a,b⟩;have a1:=a0.call ⟨#[122,111,110,101]⟩ false a b;clear a0 a b;go_wp2_with (go_at_call 117;refine(Cl ⟨#[114,111,111,109]⟩ ⟨#[49,48,48]⟩ [1] [[49,48,48]] w1 1 1 w1.heap.size rfl rfl rfl rfl (by decide) (by decide) (by decide)).mono ?_)
  rintro e w2 ⟨p,q,r,s,rfl,c,d⟩;have a2:=a1.call ⟨#[114,111,111,109]⟩ false c d;clear a1 c d;go_wp2_with (go_at_call 117;refine(Cl ⟨#[104,111,108,100]⟩ ⟨#[49,48,48]⟩ [1] [[49,48,48]] w2 1 1 w2.heap.size rfl rfl rfl rfl (by decide) (by decide) (by decide)).mono ?_)
  rintro e w3 ⟨t,u,v,x,rfl,f,g⟩;have a3:=a2.call ⟨#[104,111,108,100]⟩ false f g;clear a2 f g;go_wp2_with (go_at_call 118;refine(Oq ⟨#[109,97,114,107]⟩ [3] w3 1 w3.heap.size rfl rfl (by decide) (by decide)).mono ?_)
  rintro e y ⟨z,A,B,C,rfl,h,i⟩;have a4:=a3.call ⟨#[109,97,114,107]⟩ true h i;clear a3 h i;go_wp2;go_ret;exact a4.post _ 4 rfl rfl rfl
theorem Jf(kind:ByteArray)(w:World)(O:(kind.toList==[116,101,97,109])=false)(P:(kind.toList==[98,101,114,116,104])=false)(Q:(kind.toList==[115,101,114,118,105,99,101])=true):Calls prog 56 #[.string kind] w fun e w'=>Ef serviceRules w e w':=by
  have a0:=LR.nil w;go_enter func56,ntmps56;go_wp2_with (go_at_call 117;refine(Cl ⟨#[116,101,97,109]⟩ ⟨#[99,111,114,101]⟩ [3] [[99,111,114,101]] w 1 1 w.heap.size rfl rfl rfl rfl (by decide) (by decide) (by decide)).mono ?_)
  rintro e w1 ⟨R,S,T,U,rfl,a,b⟩;have a1:=a0.call ⟨#[116,101,97,109]⟩ false a b;clear a0 a b;go_wp2_with (go_at_call 117;refine(Cl ⟨#[105,109,97,103,101]⟩ ⟨#[49]⟩ [1] [[49]] w1 1 1 w1.heap.size rfl rfl rfl rfl (by decide) (by decide) (by decide)).mono ?_)
  rintro e w2 ⟨V,W,X,Y,rfl,c,d⟩;have a2:=a1.call ⟨#[105,109,97,103,101]⟩ false c d;clear a1 c d;go_wp2_with (go_at_call 117;refine(Cl ⟨#[119,97,110,116]⟩ ⟨#[49]⟩ [1] [[49]] w2 1 1 w2.heap.size rfl rfl rfl rfl (by decide) (by decide) (by decide)).mono ?_)
  rintro e w3 ⟨Z,aa,ab,ac,rfl,f,g⟩;have a3:=a2.call ⟨#[119,97,110,116]⟩ false f g;clear a2 f g;go_wp2_with (go_at_call 117;refine(Cl ⟨#[100,111,119,110]⟩ ⟨#[49]⟩ [1] [[49]] w3 1 1 w3.heap.size rfl rfl rfl rfl (by decide) (by decide) (by decide)).mono ?_)
  rintro e h ⟨ad,ae,af,ag,rfl,i,j⟩;have a4:=a3.call ⟨#[100,111,119,110]⟩ false i j;clear a3 i j;go_wp2_with (go_at_call 117;refine(Cl ⟨#[111,118,101,114]⟩ ⟨#[48]⟩ [1] [[48]] h 1 1 h.heap.size rfl rfl rfl rfl (by decide) (by decide) (by decide)).mono ?_)
  rintro e k ⟨ah,ai,aj,ak,rfl,l,m⟩;have a5:=a4.call ⟨#[111,118,101,114]⟩ false l m;clear a4 l m;go_wp2_with (go_at_call 117;refine(Cl ⟨#[110,101,101,100,115]⟩ ⟨#[49,32,49]⟩ [1,1] [[49],[49]] k 2 2 k.heap.size rfl rfl rfl rfl (by decide) (by decide) (by decide)).mono ?_)
  rintro e n ⟨al,am,an,ao,rfl,o,p⟩;have q:=a5.call ⟨#[110,101,101,100,115]⟩ false o p;clear a5 o p;go_wp2_with (go_at_call 117;refine(Cl ⟨#[119,104,101,114,101]⟩ ⟨#[]⟩ [4] [[]] n 1 1 n.heap.size rfl rfl rfl rfl (by decide) (by decide) (by decide)).mono ?_)
  rintro e r ⟨ap,aq,ar,au,rfl,s,t⟩;have u:=q.call ⟨#[119,104,101,114,101]⟩ false s t;clear q s t;go_wp2_with (go_at_call 118;refine(Oq ⟨#[108,105,107,101]⟩ [4,2] r 2 r.heap.size rfl rfl (by decide) (by decide)).mono ?_)
  rintro e v ⟨av,aw,ax,ay,rfl,x,y⟩;have z:=u.call ⟨#[108,105,107,101]⟩ true x y;clear u x y;go_wp2_with (go_at_call 117;refine(Cl ⟨#[97,112,97,114,116]⟩ ⟨#[110,111,110,101]⟩ [6] [[110,111,110,101]] v 1 1 v.heap.size rfl rfl rfl rfl (by decide) (by decide) (by decide)).mono ?_)
  rintro e A ⟨az,a6,a7,a8,rfl,B,C⟩;have a9:=z.call ⟨#[97,112,97,114,116]⟩ false B C;clear z B C;go_wp2_with (go_at_call 117;refine(Cl ⟨#[118,111,108,117,109,101]⟩ ⟨#[110,111]⟩ [5] [[110,111]] A 1 1 A.heap.size rfl rfl rfl rfl (by decide) (by decide) (by decide)).mono ?_)
  rintro e D ⟨ba,bb,bc,bd,rfl,E,F⟩;have G:=a9.call ⟨#[118,111,108,117,109,101]⟩ false E F;clear a9 E F;go_wp2_with (go_at_call 117;refine(Cl ⟨#[102,111,108,108,111,119]⟩ ⟨#[48,32,48,32,48]⟩ [1,1,1] [[48],[48],[48]] D 3 3 D.heap.size rfl rfl rfl rfl (by decide) (by decide) (by decide)).mono ?_)
  rintro e H ⟨be,bf,bg,bh,rfl,I,J⟩;have K:=G.call ⟨#[102,111,108,108,111,119]⟩ false I J;clear G I J;go_wp2_with (go_at_call 117;refine(Cl ⟨#[112,97,99,101]⟩ ⟨#[48,32,48,32,48]⟩ [1,1,1] [[48],[48],[48]] H 3 3 H.heap.size rfl rfl rfl rfl (by decide) (by decide) (by decide)).mono ?_)
  rintro e bi ⟨bj,bk,bl,bm,rfl,L,M⟩;have N:=K.call ⟨#[112,97,99,101]⟩ false L M;clear K L M;go_wp2;go_ret;exact N.post _ 12 rfl rfl rfl
theorem LU(kind:ByteArray)(w:World)(a:(kind.toList==[116,101,97,109])=false)(b:(kind.toList==[98,101,114,116,104])=false)(c:(kind.toList==[115,101,114,118,105,99,101])=false):Calls prog 56 #[.string kind] w fun e w'=>Ef [] w e w':=by
 go_enter func56,ntmps56;go_wp2;go_ret;refine⟨_,[],rfl,rfl,?_,(aF _ w).alloc (aD _) _⟩;exact(Ay.nil _ w).cons (r:=⟨_,_,_,_,_⟩) (aH (base:=w.heap.size) (e:=54) (size:=4) w #[] 0 (aD _) (by decide) rfl) ((aF _ w).alloc (aD _) _) (aD _)
theorem Cf(kind:ByteArray)(w:World):Calls prog 56 #[.string kind] w fun e w'=>Ef (rulesOf kind) w e w':=by
 unfold rulesOf;by_cases h1:kind.toList=[116,101,97,109]
 ·rw[if_pos h1];exact LS kind w (beq_iff_eq.2 h1)
 rw[if_neg h1];by_cases a:kind.toList=[98,101,114,116,104]
 ·rw[if_pos a];exact KW kind w (beq_eq_false_iff_ne.2 h1) (beq_iff_eq.2 a)
 rw[if_neg a];by_cases b:kind.toList=[115,101,114,118,105,99,101]
 ·rw[if_pos b];exact Jf kind w (beq_eq_false_iff_ne.2 h1) (beq_eq_false_iff_ne.2 a) (beq_iff_eq.2 b)
 rw[if_neg b];exact LU kind w (beq_eq_false_iff_ne.2 h1) (beq_eq_false_iff_ne.2 a) (beq_eq_false_iff_ne.2 b)
variable {g:Nat}{α:Type}
theorem Ot(L:List AL):(L.flatMap AL.cells).length=L.length*4:=by
 induction L with
 | nil=>rfl
 | cons a M b=>rw[bn,bE,b];simp[AL.cells];omega
theorem Yz(D T:List AL)(r:AL)(c:Nat)(a:c<4):((D++r::T).flatMap AL.cells)[D.length*4+c]?=r.cells[c]?:=by
 rw[List.flatMap_append,bn,List.getElem?_append_right (by rw[Ot];omega),Ot,Nat.add_sub_cancel_left,List.getElem?_append_left (by simp[AL.cells];omega)]
def RM(B:Nat)(w:World)(v:Value)(C:List AL)(rest:List MRow):Prop:=Ay B w (⟨v,54,4,C.length,C.flatMap AL.cells⟩::(C.flatMap AL.rows++rest))
theorem Bh.rm{C:List AL}(h:Bh B w v C):RM B w v C []:=by unfold RM;rw[List.append_nil];exact h
theorem RM.cell{cap:Nat}{D T:List AL}{r:AL}{rest:List MRow}(h:RM B w (aA (aC ⟨g,0,aB⟩) n cap) (D++r::T) rest)(c:Nat)(b:c<4):w.cell? ⟨g,D.length*4+c,aB⟩=r.cells[c]?:=by
 have h1:=(Ay.head h).cells rfl (D.length*4+c);obtain⟨u,a⟩:∃u,r.cells[c]?=aC u:=⟨_,List.getElem?_eq_getElem (by simp[AL.cells];omega)⟩;rw[a];rw[<-Lm];exact h1 u (by rw[Yz D T r c b,a])
theorem RM.args{D T:List AL}{r:AL}{rest:List MRow}(h:RM B w v (D++r::T) rest):w.ownsRow B 3 1 r.va r.ns.length (Cw r.ns):=h.1 ⟨r.va,3,1,r.ns.length,Cw r.ns⟩ (by simp[AL.rows])
theorem RM.defs{D T:List AL}{r:AL}{rest:List MRow}(h:RM B w v (D++r::T) rest):w.ownsRow B 9 1 r.vd r.ds.length (strs r.ds):=h.1 ⟨r.vd,9,1,r.ds.length,strs r.ds⟩ (by simp[AL.rows])
theorem RM.V{C:List AL}{rest:List MRow}(h:RM B w v C rest)(a:Below w.heap.size w w'):RM B w' v C rest:=Ay.V h a
theorem AC(L:List α)(j:Nat)(h:j<L.length):∃D r T,L=D++r::T/\D.length=j :=
 ⟨L.take j,L[j],L.drop (j+1),by rw[<-List.drop_eq_getElem_cons h,List.take_append_drop],by simp;omega⟩
variable {P:Program}{mty kt et:bv}{clock:Nat}{s:ByteArray}{ops:Array Oper}{o:Oper}{a:Act}{Q:Exit -> Act -> World -> Prop}{L:List AL}
theorem Aa9{r:Nat}{es:Array bq}{val:Value}(c:P.underlying mty=aC (.map kt et))(a:P.underlying kt=aC .string)(b:w.heap[r]?=aC (.map es clock))
  (d:aI .string (.string s) es.toList 0=aC aB) :
  (bI mty (.map (aC r)) (.string s) val).run P w=.ok () { w with heap:=w.heap.setIfInBounds r (.map (es.push { key:=.string s,val:=val,born:=clock }) (clock+1)) }:=by
 have e:(bs false 10000 kt (.string s)).run P w=.ok () w:=aW (k:=.string s) a (by simp[br]) false 9999;simp[bI,bu c,aT b,e,aY a d,MapKept.run_setObj_map _ b,aX]
theorem IF(w:World){rest:List Oper}(c:o.guard=aB)(m x v:Operand)(t:bv)(d:o.op=bw t m x v)
  (k e:bv) (f:P.underlying t=aC (.map k e)) (g:P.underlying k=aC .string) (r clock:Nat) (es:Array bq) (s:ByteArray) (val:Value) (h:a.eval m=.map (aC r)) (i:a.eval x=.string s) (l:a.eval v=val)
  (b:w.heap[r]?=aC (.map es clock)) (n:aI .string (.string s) es.toList 0=aC aB)
  (p:∀w',w'.heap[r]?=aC (.map (es.push { key:=.string s,val:=val,born:=clock }) (clock+1))->w.grownBy w' (aC r)->bM P ops Q rest (a.put o.dst undef) w'):bM P ops Q (o::rest) a w:=by
 refine wpList_plain c fun z q=>?_
 have u:=Aa9 (val:=val) f g b n;unfold Oper.wp;simp[execOp,d,h,i,l,u,aX];refine q _ _ (p _ (bA b).1 ⟨rfl,rfl,rfl,by simp,fun j _ y=>(bA b).2 j (fun e=>y (by rw[e]))⟩)
theorem Ay.nilRow{L:List MRow}(h:Ay B w L)(e:bv):Ay B w (⟨aA aB 0 0,e,1,0,[]⟩::L):=by
 refine⟨fun r a=>?_,List.pairwise_cons.2 ⟨fun s _=>Or.inl rfl,h.2⟩⟩;rcases bO.1 a with rfl|h1
 ·exact aP _ _ _ _
 ·exact h.1 r h1
theorem LR.lit(h:LR w0 w L)(K n m:Nat)(key:ByteArray)(ns:List Int)(ds:List (List UInt8))(A D:Array Value)(d:w.heap.size=K)(c:A.toList=Cw ns)(a:D.toList=strs ds)(f:ns.length=n)(g:ds.length=m)(h1:n<=100)(l:m<=100):
  LR w0 ((w.alloc (aE A 3)).alloc (aE D 9)) (⟨key,aA (aC ⟨K,0,aB⟩) n n,ns,false,aA (aC ⟨K+1,0,aB⟩) m m,ds⟩::L):=by
 subst d f g;have b:=(aF w.heap.size w).alloc (aD _) (aE A 3);have i:=b.alloc b.size (aE D 9);have o1:=aH (base:=w.heap.size) (e:=3) (size:=1) w A ns.length (aD _) (by unfold bp;omega) (by rw[<-aL,c,DO];omega);have o2:=aH (base:=w.heap.size) (e:=9) (size:=1) (w.alloc (aE A 3)) D ds.length (by simp) (by unfold bp;omega) (by rw[<-aL,a,CE];omega);rw[c]at o1;rw[a,aG]at o2;have j:Ay w.heap.size (w.alloc (aE A 3)) [⟨aA (aC ⟨w.heap.size,0,aB⟩) ns.length ns.length,3,1,ns.length,Cw ns⟩]:=(Ay.nil _ w).cons o1 b (aD _)
 have k:=(j.cons (r:=⟨aA (aC ⟨w.heap.size+1,0,aB⟩) ds.length ds.length,9,1,ds.length,strs ds⟩) (w':=(w.alloc (aE A 3)).alloc (aE D 9))
  (aH (base:=(w.alloc (aE A 3)).heap.size) (e:=9) (size:=1) (w.alloc (aE A 3)) D ds.length (aD _) (by unfold bp;omega) (by rw[<-aL,a,CE];omega) |> fun h=>by rw[a,aG]at h;unfold MRow.isAt;rw[aG];exact h)
  ((aF _ _).alloc (aD _) _) (by simp)).perm (bC _ _ _)
 exact h.call key false ⟨k,rfl,rfl⟩ i
theorem LR.litMany(h:LR w0 w L)(K n:Nat)(key:ByteArray)(ns:List Int)(A:Array Value)(c:w.heap.size=K)(a:A.toList=Cw ns)(d:ns.length=n)(h1:n<=100):
  LR w0 (w.alloc (aE A 3)) (⟨key,aA (aC ⟨K,0,aB⟩) n n,ns,true,aA aB 0 0,[]⟩::L):=by
 subst c d;have b:=(aF w.heap.size w).alloc (aD _) (aE A 3);have o1:=aH (base:=w.heap.size) (e:=3) (size:=1) w A ns.length (aD _) (by unfold bp;omega) (by rw[<-aL,a,DO];omega);rw[a]at o1;have f:Ay w.heap.size (w.alloc (aE A 3)) [⟨aA (aC ⟨w.heap.size,0,aB⟩) ns.length ns.length,3,1,ns.length,Cw ns⟩]:=(Ay.nil _ w).cons o1 b (aD _);exact h.call key true ⟨(f.nilRow 9).perm (bC _ _ _),rfl,rfl⟩ b
theorem LR.doneAt(h:LR w0 w L)(K:Nat)(cs:Array Value)(n:Nat)(a:w.heap.size=K)(b:L.length=n)(c:cs.toList=L.reverse.flatMap AL.cells)(d:n<=100):
  Bh w0.heap.size (w.alloc (aE cs 54)) (aA (aC ⟨K,0,aB⟩) n n) L.reverse/\Below w0.heap.size w0 (w.alloc (aE cs 54)):=by
 subst a;exact h.done cs n b c d
theorem Ay.keptBy{r:Nat}{L:List MRow}(h:Ay B w L)(b:w.grownBy w' (aC r))(d:r<B):Ay B w' L :=
 ⟨fun x a=>bS (h.1 x a) b (by
   cases c:x.v.ownBlock with
   | none=>exact Or.inl rfl
   | some g=>exact Or.inr (fun e=>by have:=(h.lt a c).1;have:=Option.some.inj e;omega)),h.2⟩
theorem Dp{a:ByteArray}(v:Value)(b i:Nat)(es:List bq)(h:(s==a)=false):aI .string (.string s) ({ key:=.string a,val:=v,born:=b }::es) i=aI .string (.string s) es (i+1):=by
 simp[aI,bK,h]
theorem Mm{a:ByteArray}(v:Value)(b i:Nat)(es:List bq)(h:(s==a)=true):aI .string (.string s) ({ key:=.string a,val:=v,born:=b }::es) i=aC (aC (i,v)):=by
 simp[aI,bK,h]
theorem Mn(s:ByteArray)(i:Nat):aI .string (.string s) [] i=aC aB:=rfl
def VN(w:World)(e:Ending)(w':World):Prop :=
 ∃a b vb c d f,e=aQ (.map (aC w.heap.size))/\w'.heap[w.heap.size]?=aC (.map #[⟨.string ⟨#[116,101,97,109]⟩,a,0⟩,⟨.string ⟨#[98,101,114,116,104]⟩,vb,1⟩,⟨.string ⟨#[115,101,114,118,105,99,101]⟩,d,2⟩] 3) /\
  (b.map AL.I=teamRules/\Bh w.heap.size w' a b)/\(c.map AL.I=berthRules/\Bh w.heap.size w' vb c)/\(f.map AL.I=serviceRules/\Bh w.heap.size w' d f)/\Below w.heap.size w w'
theorem Aet:((⟨#[98,101,114,116,104]⟩:ByteArray)==⟨#[116,101,97,109]⟩)=false:=by decide
theorem Aeu:((⟨#[115,101,114,118,105,99,101]⟩:ByteArray)==⟨#[116,101,97,109]⟩)=false:=by decide
theorem Aev:((⟨#[115,101,114,118,105,99,101]⟩:ByteArray)==⟨#[98,101,114,116,104]⟩)=false:=by decide
theorem NI(w:World):Calls prog 92 #[] w fun e w'=>VN w e w':=by
 have z:=run_makeMap_plain (P:=prog) w 135;have n:=((LR.nil (w.alloc (.map #[] 0))).lit (w.heap.size+1) 1 1 ⟨#[99,111,112,105,101,115]⟩ [1] [[49,48,48]] #[.int .i64 1] #[.string ⟨#[49,48,48]⟩] (by simp) rfl rfl rfl rfl (by decide) (by decide)).lit (w.heap.size+1+1+1) 1 1 ⟨#[114,111,111,109]⟩ [1] [[49,48,48,48]] #[.int .i64 1] #[.string ⟨#[49,48,48,48]⟩] (by simp) rfl rfl rfl rfl (by decide) (by decide);have d:=n.doneAt (w.heap.size+1+1+1+1+1) #[.string ⟨#[99,111,112,105,101,115]⟩,aA (aC ⟨w.heap.size+1,0,aB⟩) 1 1,.bool false,aA (aC ⟨w.heap.size+1+1,0,aB⟩) 1 1,.string ⟨#[114,111,111,109]⟩,aA (aC ⟨w.heap.size+1+1+1,0,aB⟩) 1 1,.bool false,aA (aC ⟨w.heap.size+1+1+1+1,0,aB⟩) 1 1] 2 (by simp) rfl rfl (by decide);have o:=(d.2.block w.heap.size (by simp)).trans (aS w (.map #[] 0));go_enter func92,ntmps92;go_wp2_with (with_reducible show bM _ _ _ (bP _ (bw _ _ _ _) _ _ _ _::_) _ _;refine IF _ rfl _ _ _ _ rfl 9 47 underlying135 underlying9 w.heap.size 0 #[] _ _ rfl rfl rfl o rfl ?_)
 intro w1 j l;have p:=(show Ay _ _ _ from d.1).keptBy l (by simp);have q:=((aF w.heap.size w).alloc (aD _) (.map #[] 0)).trans ((d.2.mono (by simp)).grown l (bx (by simp) d.2.size) (fun k f=>by cases f;exact aD _));have b:w.heap.size<w1.heap.size:=(aJ.1 j).1;clear o d n l z;have r:=((((LR.nil w1).lit (w1.heap.size) 1 1 ⟨#[122,111,110,101]⟩ [3] [[122]] #[.int .i64 3] #[.string ⟨#[122]⟩] (by simp) rfl rfl rfl rfl (by decide) (by decide)).lit (w1.heap.size+1+1) 1 1 ⟨#[114,111,111,109]⟩ [1] [[49,48,48]] #[.int .i64 1] #[.string ⟨#[49,48,48]⟩] (by simp) rfl rfl rfl rfl (by decide) (by decide)).lit (w1.heap.size+1+1+1+1) 1 1 ⟨#[104,111,108,100]⟩ [1] [[49,48,48]] #[.int .i64 1] #[.string ⟨#[49,48,48]⟩] (by simp) rfl rfl rfl rfl (by decide) (by decide)).litMany (w1.heap.size+1+1+1+1+1+1) 1 ⟨#[109,97,114,107]⟩ [3] #[.int .i64 3] (by simp) rfl rfl (by decide);have c:=r.doneAt (w1.heap.size+1+1+1+1+1+1+1) #[.string ⟨#[122,111,110,101]⟩,aA (aC ⟨w1.heap.size,0,aB⟩) 1 1,.bool false,aA (aC ⟨w1.heap.size+1,0,aB⟩) 1 1,.string ⟨#[114,111,111,109]⟩,aA (aC ⟨w1.heap.size+1+1,0,aB⟩) 1 1,.bool false,aA (aC ⟨w1.heap.size+1+1+1,0,aB⟩) 1 1,.string ⟨#[104,111,108,100]⟩,aA (aC ⟨w1.heap.size+1+1+1+1,0,aB⟩) 1 1,.bool false,aA (aC ⟨w1.heap.size+1+1+1+1+1,0,aB⟩) 1 1,.string ⟨#[109,97,114,107]⟩,aA (aC ⟨w1.heap.size+1+1+1+1+1+1,0,aB⟩) 1 1,.bool true,aA aB 0 0] 4 (by simp) rfl rfl (by decide);have s:=(c.2.block w.heap.size b).trans j;go_wp2_with (with_reducible show bM _ _ _ (bP _ (bw _ _ _ _) _ _ _ _::_) _ _;refine IF _ rfl _ _ _ _ rfl 9 47 underlying135 underlying9 w.heap.size 1 _ _ _ rfl rfl rfl s ((Dp _ _ _ _ Aet).trans (Mn _ _)) ?_)
 intro w2 m i;have t:=(p.kept (Ar c.2 aB)).keptBy i (by simp);have u:=(show Ay _ _ _ from c.1).keptBy i b;have v:=q.trans ((c.2.mono (aO b)).grown i (bx (aO b) c.2.size) (fun k f=>by cases f;exact aD _));have g:w.heap.size<w2.heap.size:=(aJ.1 m).1;clear s c r i p q j;have x:=((((((((((((LR.nil w2).lit (w2.heap.size) 1 1 ⟨#[116,101,97,109]⟩ [3] [[99,111,114,101]] #[.int .i64 3] #[.string ⟨#[99,111,114,101]⟩] (by simp) rfl rfl rfl rfl (by decide) (by decide)).lit (w2.heap.size+1+1) 1 1 ⟨#[105,109,97,103,101]⟩ [1] [[49]] #[.int .i64 1] #[.string ⟨#[49]⟩] (by simp) rfl rfl rfl rfl (by decide) (by decide)).lit (w2.heap.size+1+1+1+1) 1 1 ⟨#[119,97,110,116]⟩ [1] [[49]] #[.int .i64 1] #[.string ⟨#[49]⟩] (by simp) rfl rfl rfl rfl (by decide) (by decide)).lit (w2.heap.size+1+1+1+1+1+1) 1 1 ⟨#[100,111,119,110]⟩ [1] [[49]] #[.int .i64 1] #[.string ⟨#[49]⟩] (by simp) rfl rfl rfl rfl (by decide) (by decide)).lit (w2.heap.size+1+1+1+1+1+1+1+1) 1 1 ⟨#[111,118,101,114]⟩ [1] [[48]] #[.int .i64 1] #[.string ⟨#[48]⟩] (by simp) rfl rfl rfl rfl (by decide) (by decide)).lit (w2.heap.size+1+1+1+1+1+1+1+1+1+1) 2 2 ⟨#[110,101,101,100,115]⟩ [1,1] [[49],[49]] #[.int .i64 1,.int .i64 1] #[.string ⟨#[49]⟩,.string ⟨#[49]⟩] (by simp) rfl rfl rfl rfl (by decide) (by decide)).lit (w2.heap.size+1+1+1+1+1+1+1+1+1+1+1+1) 1 1 ⟨#[119,104,101,114,101]⟩ [4] [[]] #[.int .i64 4] #[.string ⟨#[]⟩] (by simp) rfl rfl rfl rfl (by decide) (by decide)).litMany (w2.heap.size+1+1+1+1+1+1+1+1+1+1+1+1+1+1) 2 ⟨#[108,105,107,101]⟩ [4,2] #[.int .i64 4,.int .i64 2] (by simp) rfl rfl (by decide)).lit (w2.heap.size+1+1+1+1+1+1+1+1+1+1+1+1+1+1+1) 1 1 ⟨#[97,112,97,114,116]⟩ [6] [[110,111,110,101]] #[.int .i64 6] #[.string ⟨#[110,111,110,101]⟩] (by simp) rfl rfl rfl rfl (by decide) (by decide)).lit (w2.heap.size+1+1+1+1+1+1+1+1+1+1+1+1+1+1+1+1+1) 1 1 ⟨#[118,111,108,117,109,101]⟩ [5] [[110,111]] #[.int .i64 5] #[.string ⟨#[110,111]⟩] (by simp) rfl rfl rfl rfl (by decide) (by decide)).lit (w2.heap.size+1+1+1+1+1+1+1+1+1+1+1+1+1+1+1+1+1+1+1) 3 3 ⟨#[102,111,108,108,111,119]⟩ [1,1,1] [[48],[48],[48]] #[.int .i64 1,.int .i64 1,.int .i64 1] #[.string ⟨#[48]⟩,.string ⟨#[48]⟩,.string ⟨#[48]⟩] (by simp) rfl rfl rfl rfl (by decide) (by decide)).lit (w2.heap.size+1+1+1+1+1+1+1+1+1+1+1+1+1+1+1+1+1+1+1+1+1) 3 3 ⟨#[112,97,99,101]⟩ [1,1,1] [[48],[48],[48]] #[.int .i64 1,.int .i64 1,.int .i64 1] #[.string ⟨#[48]⟩,.string ⟨#[48]⟩,.string ⟨#[48]⟩] (by simp) rfl rfl rfl rfl (by decide) (by decide);have a:=x.doneAt (w2.heap.size+1+1+1+1+1+1+1+1+1+1+1+1+1+1+1+1+1+1+1+1+1+1+1) #[.string ⟨#[116,101,97,109]⟩,aA (aC ⟨w2.heap.size,0,aB⟩) 1 1,.bool false,aA (aC ⟨w2.heap.size+1,0,aB⟩) 1 1,.string ⟨#[105,109,97,103,101]⟩,aA (aC ⟨w2.heap.size+1+1,0,aB⟩) 1 1,.bool false,aA (aC ⟨w2.heap.size+1+1+1,0,aB⟩) 1 1,.string ⟨#[119,97,110,116]⟩,aA (aC ⟨w2.heap.size+1+1+1+1,0,aB⟩) 1 1,.bool false,aA (aC ⟨w2.heap.size+1+1+1+1+1,0,aB⟩) 1 1,.string ⟨#[100,111,119,110]⟩,aA (aC ⟨w2.heap.size+1+1+1+1+1+1,0,aB⟩) 1 1,.bool false,aA (aC ⟨w2.heap.size+1+1+1+1+1+1+1,0,aB⟩) 1 1,.string ⟨#[111,118,101,114]⟩,aA (aC ⟨w2.heap.size+1+1+1+1+1+1+1+1,0,aB⟩) 1 1,.bool false,aA (aC ⟨w2.heap.size+1+1+1+1+1+1+1+1+1,0,aB⟩) 1 1,.string ⟨#[110,101,101,100,115]⟩,aA (aC ⟨w2.heap.size+1+1+1+1+1+1+1+1+1+1,0,aB⟩) 2 2,.bool false,aA (aC ⟨w2.heap.size+1+1+1+1+1+1+1+1+1+1+1,0,aB⟩) 2 2,.string ⟨#[119,104,101,114,101]⟩,aA (aC ⟨w2.heap.size+1+1+1+1+1+1+1+1+1+1+1+1,0,aB⟩) 1 1,.bool false,aA (aC ⟨w2.heap.size+1+1+1+1+1+1+1+1+1+1+1+1+1,0,aB⟩) 1 1,.string ⟨#[108,105,107,101]⟩,aA (aC ⟨w2.heap.size+1+1+1+1+1+1+1+1+1+1+1+1+1+1,0,aB⟩) 2 2,.bool true,aA aB 0 0,.string ⟨#[97,112,97,114,116]⟩,aA (aC ⟨w2.heap.size+1+1+1+1+1+1+1+1+1+1+1+1+1+1+1,0,aB⟩) 1 1,.bool false,aA (aC ⟨w2.heap.size+1+1+1+1+1+1+1+1+1+1+1+1+1+1+1+1,0,aB⟩) 1 1,.string ⟨#[118,111,108,117,109,101]⟩,aA (aC ⟨w2.heap.size+1+1+1+1+1+1+1+1+1+1+1+1+1+1+1+1+1,0,aB⟩) 1 1,.bool false,aA (aC ⟨w2.heap.size+1+1+1+1+1+1+1+1+1+1+1+1+1+1+1+1+1+1,0,aB⟩) 1 1,.string ⟨#[102,111,108,108,111,119]⟩,aA (aC ⟨w2.heap.size+1+1+1+1+1+1+1+1+1+1+1+1+1+1+1+1+1+1+1,0,aB⟩) 3 3,.bool false,aA (aC ⟨w2.heap.size+1+1+1+1+1+1+1+1+1+1+1+1+1+1+1+1+1+1+1+1,0,aB⟩) 3 3,.string ⟨#[112,97,99,101]⟩,aA (aC ⟨w2.heap.size+1+1+1+1+1+1+1+1+1+1+1+1+1+1+1+1+1+1+1+1+1,0,aB⟩) 3 3,.bool false,aA (aC ⟨w2.heap.size+1+1+1+1+1+1+1+1+1+1+1+1+1+1+1+1+1+1+1+1+1+1,0,aB⟩) 3 3] 12 (by simp) rfl rfl (by decide);have y:=(a.2.block w.heap.size g).trans m;go_wp2_with (with_reducible show bM _ _ _ (bP _ (bw _ _ _ _) _ _ _ _::_) _ _;refine IF _ rfl _ _ _ _ rfl 9 47 underlying135 underlying9 w.heap.size 2 _ _ _ rfl rfl rfl y ((Dp _ _ _ _ Aeu).trans ((Dp _ _ _ _ Aev).trans (Mn _ _))) ?_)
 intro w3 A h;have B:=(t.kept (Ar a.2 aB)).keptBy h (by simp);have C:=(u.kept (Ar a.2 aB)).keptBy h b;have D:=(show Ay _ _ _ from a.1).keptBy h g;have E:=v.trans ((a.2.mono (aO g)).grown h (bx (aO g) a.2.size) (fun k f=>by cases f;exact aD _));clear y a x h t u v m;go_wp2;go_ret;exact⟨_,_,_,_,_,_,rfl,A,⟨rfl,B.mono (by simp)⟩,⟨rfl,C.mono (aO b)⟩,⟨rfl,D.mono (aO g)⟩,E⟩
variable {i:Nat}
theorem Mo{r:Nat}{es:Array bq}(b:P.underlying mty=aC (.map kt et))(a:P.underlying kt=aC .string)(c:w.heap[r]?=aC (.map es clock))
  (d:aI .string (.string s) es.toList 0=aC (aC (i,v))):(aV mty (.map (aC r)) (.string s) false).run P w=.ok v w:=by
 have e:(bs es.isEmpty 10000 kt (.string s)).run P w=.ok () w:=aW (k:=.string s) a (by simp[br]) _ 9999;simp[aV,bu b,aT c,e,aY a d,aX]
theorem Pm{r:Nat}{es:Array bq}{z:Value}(b:P.underlying mty=aC (.map kt et))(a:P.underlying kt=aC .string)(c:(zeroValue et).run P w=.ok z w)(d:w.heap[r]?=aC (.map es clock))
  (e:aI .string (.string s) es.toList 0=aC aB):(aV mty (.map (aC r)) (.string s) false).run P w=.ok z w:=by
 have f:(bs es.isEmpty 10000 kt (.string s)).run P w=.ok () w:=aW (k:=.string s) a (by simp[br]) _ 9999;simp[aV,bu b,aT d,f,aY a e,c,aX]
theorem IG{l:List UInt8}(h:s.toList=l):(s==⟨l.toArray⟩)=true:=by
 rw[bz];apply bF;apply bH.1;rw[<-bt,h]
theorem DL{l:List UInt8}(h:¬s.toList=l):(s==⟨l.toArray⟩)=false:=by
 rw[Bool.eq_false_iff];intro e;rw[bz]at e;subst e;exact h (by rw[bt])
theorem Ut(w:World):(zeroValue 47).run prog w=.ok (aA aB 0 0) w:=by simp[go_sem]
theorem Uu(kind:ByteArray)(w w':World)(e:Ending)(h:VN w e w'):∃v L,e=aQ (.map (aC w.heap.size))/\(aV 135 (.map (aC w.heap.size)) (.string kind) false).run prog w'=.ok v w'/\L.map AL.I=rulesOf kind/\Bh w.heap.size w' v L/\Below w.heap.size w w':=by
 obtain⟨f,g,vb,i,j,k,rfl,b,⟨l,mt⟩,⟨m,n⟩,⟨o,p⟩,c⟩:=h;unfold rulesOf;by_cases h1:kind.toList=[116,101,97,109]
 ·rw[if_pos h1];exact⟨f,g,rfl,Mo underlying135 underlying9 b (Mm _ _ _ _ (IG h1)),l,mt,c⟩
 rw[if_neg h1];by_cases a:kind.toList=[98,101,114,116,104]
 ·rw[if_pos a];exact⟨vb,i,rfl,Mo underlying135 underlying9 b ((Dp _ _ _ _ (DL h1)).trans (Mm _ _ _ _ (IG a))),m,n,c⟩
 rw[if_neg a];by_cases d:kind.toList=[115,101,114,118,105,99,101]
 ·rw[if_pos d];exact⟨j,k,rfl,Mo underlying135 underlying9 b ((Dp _ _ _ _ (DL h1)).trans ((Dp _ _ _ _ (DL a)).trans (Mm _ _ _ _ (IG d)))),o,p,c⟩
 rw[if_neg d]
 exact⟨_,[],rfl,Pm underlying135 underlying9 (Ut w') b ((Dp _ _ _ _ (DL h1)).trans ((Dp _ _ _ _ (DL a)).trans ((Dp _ _ _ _ (DL d)).trans (Mn _ _)))),rfl,
  ⟨fun r q=>by rw[bD.1 q];exact aP _ _ _ _,by simp⟩,c⟩
theorem CU(kind:ByteArray)(w:World):Calls prog 29 #[.string kind] w fun e w'=>Ef (rulesOf kind) w e w':=by
 go_enter func29,ntmps29;go_wp2_with (go_at_call 92;refine(NI w).mono ?_)
 intro e w1 h;obtain⟨v,L,rfl,d,a,b,c⟩:=Uu kind w w1 e h;clear h;go_wp2;go_ret;exact⟨v,L,rfl,a,b,c⟩
