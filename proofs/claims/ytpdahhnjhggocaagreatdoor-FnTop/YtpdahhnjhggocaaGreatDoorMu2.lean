import Derived.WalkKit
import Derived.Test.YtpdahhnjhggocaaGreatDoorProg
import Derived.WalkMore
import Derived.WalkSpells
import Derived.WalkLawsBesides
import Derived.LoopTactic
import Derived.Deep.RegionHeld3
import Derived.Deep.AppendLies
import Derived.Deep.QuietTactic
import Derived.BigQuiet
import Derived.WalkSmall
import Derived.Laws.OwnMore
import Derived.Laws.IdiomStrings
import Derived.Laws.BytesArg
import Derived.Laws.BitsLemmas
import Derived.Lib.Strings
import Derived.Lib.UnsafeStr
import Derived.Shelf.Strings.Builder1
import Derived.Shelf.LaysM
import Derived.Shelf.Strconv.Clone
import Derived.Shelf.Strings.Trim
import Derived.Shelf.Small.Strs
open Go.Proofs.Tryz
open Go.Value renaming string->aA,slice->aG,tuple->aP,agg->aZ,pointer->bP
open Go.Ending renaming returned->aB,returned->bh
open Option renaming none->aC,some->aD
open Go.Lib renaming extract_data->aE,byteCells->aF,IsBuilder->aL,byteCells_length->a7,indexByte->bu,byteCells_append->bE
open Nat renaming le_refl->aH,zero_le->bn,lt_of_le_of_lt->bI,lt_succ_self->bQ
open List renaming length_append->aI,pairwise_append->aY,pairwise_cons->a8,length_cons->bg,drop_zero->bq,take_of_length_le->bx,drop_of_length_le->bz,dropWhile_suffix->bA,takeWhile_cons->bD,mem_singleton->bF,size_toArray->bJ,flatMap_cons->bK,all_eq_true->bN,mem_append->bR
open UInt8 renaming ofNat->aJ,toNat_ofNat'->bC,toNat_inj->bL
open Or renaming inr->aK,inl->bd
open Go.Proofs.Tryz renaming zeroValue9->aM,zeroValue5->aN,sizeOf9->aQ,sizeOf5->aR,zeroValue3->aS,zeroValue0->aT,isAgg9->aW,isAgg5->aX,sizeOf3->bb,sizeOf0->bc,zeroValue22->bf,isAgg3->bk,isAgg0->bl,zeroValue4->bm,sizeOf22->bt,sizeOf4->bv,isAgg22->bw,isAgg4->bB,zeroValue196->bG,zeroValue100->bH,zeroValue98->bM,sizeOf196->bS,sizeOf100->bT,sizeOf98->bU,isAgg196->bV,isAgg100->bW,isAgg98->bY,func294->bZ,func263->b0,func250->b1
open Go.RowKit.Below renaming refl->aO
open Go.ByteArray renaming toList_eq->aU
open ByteArray renaming ext->aV,size_extract->bp
open Go.World renaming ownsRow_nil->ba
open Array renaming eq_empty_of_size_eq_zero->be
open Bool renaming noConfusion->bi,not_eq_true->bO
open Go.Obj renaming cells->bj
open Go.World.ownsRow renaming kept->bo,lt->b6
open Go.Shelf renaming Ren->br
open Go.Proofs.LaysM renaming n316->bX
open Go.Proofs.Lays renaming n169->b2,n167->b3,n161->b4,n137->b5
open True renaming intro->b7
namespace Go.Proofs.YtpdahhnjhggocaaGreatDoor
open Go.RowKit
set_option maxHeartbeats 16000000
set_option maxRecDepth 100000
def Co(c:UInt8):Bool:=decide (32<=c.toNat/\c.toNat<=126/\c.toNat≠34/\c.toNat≠92)
def BI(c:UInt8):Bool:=decide (33<=c.toNat/\c.toNat<=126/\c.toNat≠34/\c.toNat≠35/\c.toNat≠92)
theorem MB{c:UInt8}(h:BI c=true):33<=c.toNat/\c.toNat<=126/\c.toNat≠34/\c.toNat≠35/\c.toNat≠92:=by simpa [BI] using h
theorem FI{c:UInt8}(h:Co c=true):32<=c.toNat/\c.toNat<=126/\c.toNat≠34/\c.toNat≠92:=by simpa [Co] using h
theorem Sw{c:UInt8}(h:33<=c.toNat/\c.toNat<=126/\c.toNat≠34/\c.toNat≠35/\c.toNat≠92):BI c=true:=by simpa [BI] using h
theorem Ji{c:UInt8}(h:¬(33<=c.toNat/\c.toNat<=126/\c.toNat≠34/\c.toNat≠35/\c.toNat≠92)):BI c=false:=by simp only[BI,decide_eq_false_iff_not];exact h
theorem Kh{c:UInt8}(h:32<=c.toNat/\c.toNat<=126/\c.toNat≠34/\c.toNat≠92):Co c=true:=by simpa [Co] using h
theorem Ki{c:UInt8}(h:¬(32<=c.toNat/\c.toNat<=126/\c.toNat≠34/\c.toNat≠92)):Co c=false:=by simp only[Co,decide_eq_false_iff_not];exact h
def Agy:List UInt8:=[48,49,50,51,52,53,54,55,56,57,97,98,99,100,101,102]
def Hg(n:Nat):UInt8:=Agy.getD n 0
def qb(c:UInt8):List UInt8:=if Co c=true then [c] else [92,Hg (c.toNat/16),Hg (c.toNat%16)]
def FZ(l:List UInt8):List UInt8:=34::(l.flatMap qb)++[34]
def CW(l:List UInt8):Bool:=!l.isEmpty&&l.all BI
def Ck(l:List UInt8):List UInt8:=if CW l=true then l else FZ l
theorem Zd(c:UInt8):(qb c).length<=3:=by unfold qb;split <;> simp
theorem Ze(l:List UInt8):(l.flatMap qb).length<=3*l.length:=by
 induction l with
 | nil=>simp
 | cons c r a=>have:=Zd c;simp only[bK,aI,bg];omega
theorem Ia(s:ByteArray)(k:Nat)(h:k<s.size):s.data.toList.take (k+1)=s.data.toList.take k++[s[k]]:=by
 rw[List.take_succ_eq_append_getElem (by simpa using h)];rfl
theorem Xt(s:ByteArray)(k:Nat)(h:k<s.size):(s.data.toList.take (k+1)).flatMap qb=(s.data.toList.take k).flatMap qb++qb s[k]:=by
 rw[Ia s k h];simp
theorem Sx(s:ByteArray)(k:Nat)(h:k<s.size):(s.data.toList.take (k+1)).all BI=((s.data.toList.take k).all BI&&BI s[k]):=by
 rw[Ia s k h];simp
theorem Jj(s:ByteArray):s.data.toList.take s.size=s.data.toList:=bx (by simp)
variable {acc:List (List UInt8)}{n:Nat}
def hexV(c:UInt8):Nat:=if 48<=c.toNat/\c.toNat<=57 then c.toNat-48 else if 97<=c.toNat/\c.toNat<=102 then c.toNat-87 else 16
def On:List UInt8->Option (List UInt8 × Nat)
 | []=>aC
 | c::r =>
  if c.toNat=34 then aD ([],1)
  else if c.toNat=92 then
   match r with
   | a::b::r'=>if hexV a<16/\hexV b<16 then (On r').map (fun p=>(aJ (16*hexV a+hexV b)::p.1,p.2+3)) else aC
   | _=>aC
  else if 32<=c.toNat/\c.toNat<=126 then (On r).map (fun p=>(c::p.1,p.2+1)) else aC
def MC:List UInt8->Option (List UInt8 × Nat)
 | a::b::r'=>if hexV a<16/\hexV b<16 then (On r').map (fun p=>(aJ (16*hexV a+hexV b)::p.1,p.2+3)) else aC
 | _=>aC
theorem Gl(c:UInt8)(r:List UInt8):On (c::r)=if c.toNat=34 then aD ([],1) else if c.toNat=92 then MC r else if 32<=c.toNat/\c.toNat<=126 then (On r).map (fun p=>(c::p.1,p.2+1)) else aC:=by
 match r with
 | []=>simp[On,MC]
 | [_]=>simp[On,MC]
 | _::_::_=>rw[On,MC]
def Uq(L:List UInt8)(i:Nat)(acc:List UInt8):Option (List UInt8 × Nat):=(On (L.drop i)).map (fun p=>(acc++p.1,i+p.2))
theorem CH(s:ByteArray)(i:Nat)(h:i<s.size):s.data.toList.drop i=s[i]::s.data.toList.drop (i+1) :=
 List.drop_eq_getElem_cons (by simpa using h)
theorem Aej(s:ByteArray)(i:Nat)(acc:List UInt8)(h:¬i<s.size):Uq s.data.toList i acc=aC:=by
 unfold Uq;rw[bz (by simp;omega)];rfl
theorem Acg(s:ByteArray)(i:Nat)(acc:List UInt8)(h:i<s.size)(a:s[i].toNat=34):Uq s.data.toList i acc=aD (acc,i+1):=by
 unfold Uq;rw[CH s i h,Gl];simp[a]
theorem Ach(k:Nat):∀(l:List UInt8) (x:List UInt8) (n:Nat),l.length<=k->On l=aD (x,n)->1<=n/\n<=l.length/\x.length<n:=by
 induction k with
 | zero=>intro l x n d h;match l,d with | [],_=>simp[On]at h
 | succ k f =>
  intro l x n d h
  match l,d with
  | [],_=>simp[On]at h
  | c::r,d =>
   rw[Gl]at h;split at h
   ·simp at h;obtain⟨rfl,rfl⟩:=h;simp
   ·split at h
    ·match r,d,h with
     | a::b::r',d,h =>
      rw[MC]at h;split at h
      ·cases e:On r' with
       | none=>simp[e]at h
       | some p =>
        obtain⟨y,m⟩:=p;simp[e]at h;obtain⟨rfl,rfl⟩:=h;have:=f r' y m (by simp at d;omega) e;simp;omega
      ·simp at h
     | [_],_,h=>simp[MC]at h
     | [],_,h=>simp[MC]at h
    ·split at h
     ·cases e:On r with
      | none=>simp[e]at h
      | some p =>
       obtain⟨y,m⟩:=p;simp[e]at h;obtain⟨rfl,rfl⟩:=h;have:=f r y m (by simp at d;omega) e;simp;omega
     ·simp at h
def DM:List UInt8->Option (List UInt8 × Nat)
 | []=>aC
 | c::r=>if c.toNat=34 then (On r).map (fun p=>(p.1,p.2+1)) else if BI c=false then aC else aD ((c::r).takeWhile BI,((c::r).takeWhile BI).length)
theorem IK(l:List UInt8)(x:List UInt8)(n:Nat)(h:DM l=aD (x,n)):1<=n/\n<=l.length:=by
 match l,h with
 | c::r,h =>
  rw[DM]at h;split at h
  ·cases a:On r with
   | none=>simp[a]at h
   | some p =>
    obtain⟨y,m⟩:=p;simp[a]at h;have:=Ach r.length r y m (aH _) a;simp;omega
  ·split at h
   ·simp at h
   ·rename_i b;simp at h;obtain⟨rfl,rfl⟩:=h;have d:=(List.takeWhile_prefix BI (l:=c::r)).length_le;refine⟨?_,d⟩;rw[bD,if_pos (by simpa using b)];simp
def Fh:List UInt8->Bool
 | []=>true
 | c::_=>decide (c.toNat=32\/c.toNat=35)
def Ga:Nat->List (List UInt8)->List UInt8->Option (List (List UInt8))
 | _,acc,[]=>aD acc
 | 0,_,_::_=>aC
 | f+1,acc,c::r =>
  if c.toNat=32 then Ga f acc r
  else if c.toNat=35 then aD acc
  else match DM (c::r) with
   | none=>aC
   | some (x,n)=>if Fh ((c::r).drop n)=true/\x.length<=200/\acc.length<8 then Ga f (acc++[x]) ((c::r).drop n) else aC
def cutL(l:List UInt8):Option (List (List UInt8)):=Ga l.length [] l
def Hc(acc:List (List UInt8))(l:List UInt8)(R:Option (List (List UInt8))):Prop:=∃f,l.length<=f/\Ga f acc l=R
theorem Hc.start(l:List UInt8):Hc [] l (cutL l):=⟨l.length,aH _,rfl⟩
theorem Hc.nil{R:Option (List (List UInt8))}(h:Hc acc [] R):R=aD acc:=by
 obtain⟨f,_,rfl⟩:=h;cases f <;> rfl
theorem Hc.space{c:UInt8}{r:List UInt8}{R:Option (List (List UInt8))}(h:Hc acc (c::r) R)(b:c.toNat=32):Hc acc r R:=by
 obtain⟨f,a,rfl⟩:=h
 match f,a with
 | f+1,a=>exact⟨f,by simp at a;omega,by rw[Ga,if_pos b]⟩
theorem Hc.hash{c:UInt8}{r:List UInt8}{R:Option (List (List UInt8))}(h:Hc acc (c::r) R)(b:c.toNat=35):R=aD acc:=by
 obtain⟨f,a,rfl⟩:=h
 match f,a with
 | f+1,a=>rw[Ga,if_neg (by omega),if_pos b]
theorem Hc.none{c:UInt8}{r:List UInt8}{R:Option (List (List UInt8))}(h:Hc acc (c::r) R)(h1:c.toNat≠32)(b:c.toNat≠35)(d:DM (c::r)=.none):R=.none:=by
 obtain⟨f,a,rfl⟩:=h
 match f,a with
 | f+1,a=>rw[Ga,if_neg h1,if_neg b,d]
theorem Hc.no{c:UInt8}{r:List UInt8}{R:Option (List (List UInt8))}{x:List UInt8}(h:Hc acc (c::r) R)(h1:c.toNat≠32)(b:c.toNat≠35)(d:DM (c::r)=aD (x,n))(e:¬(Fh ((c::r).drop n)=true/\x.length<=200/\acc.length<8)):R=.none:=by
 obtain⟨f,a,rfl⟩:=h
 match f,a with
 | f+1,a=>rw[Ga,if_neg h1,if_neg b,d];simp only;rw[if_neg e]
theorem Hc.word{c:UInt8}{r:List UInt8}{R:Option (List (List UInt8))}{x:List UInt8}(h:Hc acc (c::r) R)(h1:c.toNat≠32)(d:c.toNat≠35)(b:DM (c::r)=aD (x,n))(e:Fh ((c::r).drop n)=true/\x.length<=200/\acc.length<8):Hc (acc++[x]) ((c::r).drop n) R:=by
 obtain⟨f,a,rfl⟩:=h;have g:=IK _ _ _ b
 match f,a with
 | f+1,a=>exact⟨f,by simp at a⊢;omega,by rw[Ga,if_neg h1,if_neg d,b];simp only;rw[if_pos e]⟩
theorem Hc.trim{acc:List (List UInt8)}{R:Option (List (List UInt8))}:∀ {l:List UInt8},Hc acc l R->Hc acc (l.dropWhile (fun c=>c==32)) R
 | [],h=>h
 | c::r,h=>by
  rw[List.dropWhile_cons];split
  ·rename_i a;have:c.toNat=32:=by simp at a;rw[a];rfl
   exact Hc.trim (h.space this)
  ·exact h
def strs(ws:List (List UInt8)):List Value:=ws.map fun l=>Value.string ⟨l.toArray⟩
theorem KQ(a b:List (List UInt8)):strs (a++b)=strs a++strs b:=by simp[strs]
theorem CO(a:List (List UInt8)):(strs a).length=a.length:=by simp[strs]
variable {w w':World}{base:Nat}{e:TypeId}{v:Value}{xs:List Value}
theorem Cz{k:IntKind}{a b:Int}(h:a=b):bh (.int k a)=aB (.int k b):=by rw[h]
theorem WM{a b:Value}(h:a=b):bh a=aB b:=by rw[h]
theorem Au{a b:Bool}(h:a=b):bh (.bool a)=aB (.bool b):=by rw[h]
theorem En(t:ByteArray)(k:Nat):(t.extract k t.size).data.toList=t.data.toList.drop k:=by
 rw[aE];exact bx (by simp)
theorem UJ(t:ByteArray)(k:Nat):t.extract 0 k=⟨(t.data.toList.take k).toArray⟩:=by
 apply aV;apply Array.toList_inj.1;rw[aE];simp
theorem Afn:(Tryz.prog.info? 5).map (fun i=>(i.zero,i.size,i.bytes))=aD (aD (.int .u8 0),1,1):=by kernel_rfl
theorem Zf(w:World)(x:Value)(T:TypeId):∀j u,[x][j]?=aD u->(w.alloc (bj #[x] T)).cell? ((⟨w.heap.size,0,aC⟩:Addr).add j)=aD u :=
 World.news_of_block (cs:=#[x]) (t:=T) (fr:=(0,0)) (heap_alloc_new w _)
theorem Jk(w1:World)(v:Value)(B:Nat)(l:List UInt8)(n:Nat)(h:w1.ownsRow B 5 1 v n (aF l)):
  (convert 22 9 v).run prog w1=.ok (aA ⟨l.toArray⟩) w1:=by
 have a:l.length=n:=by have:=h.1;simpa [a7] using this
 subst a;rcases h.2 with ⟨rfl,b⟩ | ⟨g,c,e,rfl,f⟩
 ·have:l=[]:=List.length_eq_zero_iff.1 b;subst this;exact run_convert_bytes_nil w1 22 5 underlying22 underlying5 0 0 9 underlying9
 ·refine run_convert_bytes_back w1 22 9 5 ⟨g,0,aC⟩ c l underlying22 underlying5 underlying9 fun j d=>?_
  refine h.cells rfl j _ ?_;simp only[aF,List.getElem?_map,List.getElem?_eq_getElem d];rfl
theorem Xu{size:Nat}(h:w.ownsRow base e size v n xs)(k:Nat):(w.drewN k).ownsRow base e size v n xs:=by
 induction k with
 | zero=>exact h
 | succ k a=>exact a.drew
theorem BA{size:Nat}(h:w.ownsRow base e size v n xs)(p:Addr)(k:p.block<base)(u:Value):(w.setCell p u).ownsRow base e size v n xs:=by
 refine⟨h.1,?_⟩;rcases h.2 with a | ⟨g,b,c,d,f,i,j⟩
 ·exact bd a
 ·exact aK ⟨g,b,c,d,f,by rw[Below.heap_setCell _ _ _ _ (by omega)];exact i,j⟩
theorem Cu{a:Nat}{size:Nat}(h:w.ownsRow base e size v n xs)(j:a<=base):w.ownsRow a e size v n xs:=by
 refine⟨h.1,?_⟩;rcases h.2 with b | ⟨g,c,d,f,k,i⟩
 ·exact bd b
 ·exact aK ⟨g,c,d,f,by omega,i⟩
theorem AL{size:Nat}(h:w.ownsRow base e size v n xs)(b:Below w.heap.size w w'):w'.ownsRow base e size v n xs:=by
 refine⟨h.1,?_⟩;rcases h.2 with c | ⟨g,d,f,i,j,a,k⟩
 ·exact bd c
 ·refine aK ⟨g,d,f,i,j,?_,k⟩;rw[b.block g ?_]
  ·exact a
  ·exact(Array.getElem?_eq_some_iff.1 a).1
theorem OR:(Tryz.prog.info? 9).map (fun i=>(i.zero,i.size,i.bytes))=aD (aD (aA ⟨#[]⟩),1,16):=by kernel_rfl
theorem Xv(a b:List UInt8):(⟨a.toArray⟩++⟨b.toArray⟩:ByteArray)=⟨(a++b).toArray⟩:=by
 apply aV;simp
theorem MD(w:World)(c:UInt8):(convert 22 9 (aG (aD ⟨w.heap.size,0,aC⟩) 1 1)).run prog (w.alloc (bj #[.int .u8 (c.toNat:Int)] 5))=.ok (aA ⟨#[c]⟩) (w.alloc (bj #[.int .u8 (c.toNat:Int)] 5)) :=
 Jk _ _ w.heap.size [c] 1 (World.ownsRow_lit w #[.int .u8 (c.toNat:Int)] 1 (aH _) (by decide) rfl)
theorem A2(h:Below w.heap.size w w')(row:Option Nat):w.grownBy w' row:=⟨h.os,h.tape,h.output,h.size,fun i a _=>h.block i a⟩
theorem Ar{a b c:World}{row:Option Nat}(h:a.grownBy b row)(k:b.grownBy c row):a.grownBy c row :=
 ⟨k.os.trans h.os,k.tape.trans h.tape,k.output.trans h.output,Nat.le_trans h.size k.size,fun i d e=>(k.block i (Nat.lt_of_lt_of_le d h.size) e).trans (h.block i d e)⟩
theorem Aci(ws:List (List UInt8))(j:Nat)(h:j<ws.length):(strs ws)[j]?=aD (aA ⟨ws[j].toArray⟩):=by
 simp[strs,h]
theorem Ak{size:Nat}(h:w.ownsRow base e size v n xs):∃ao a,v=aG ao n a/\(n=0\/∃g,ao=aD ⟨g,0,aC⟩):=by
 rcases h.2 with ⟨rfl,rfl⟩ | ⟨g,a,b,rfl,_⟩
 ·exact⟨aC,0,rfl,bd rfl⟩
 ·exact⟨_,_,rfl,aK ⟨g,rfl⟩⟩
variable {B B' g:Nat}
structure MRow where
 v:Value
 e:TypeId
 size:Nat
 n:Nat
 xs:List Value
def MRow.isAt(r:MRow)(B:Nat)(w:World):Prop:=w.ownsRow B r.e r.size r.v r.n r.xs
def Az(B:Nat)(w:World)(L:List MRow):Prop:=(∀r∈L,r.isAt B w)/\L.Pairwise (fun r s=>r.v.ownBlock=aC\/r.v.ownBlock≠s.v.ownBlock)
theorem Az.nil(B:Nat)(w:World):Az B w []:=⟨by simp,by simp⟩
theorem Az.kept{L:List MRow}(h:Az B w L)(a:w.grownBy w' aC):Az B w' L :=
 ⟨fun r b=>bo (h.1 r b) a (by cases c:r.v.ownBlock <;> simp),h.2⟩
theorem Az.V{L:List MRow}(h:Az B w L)(a:Below w.heap.size w w'):Az B w' L:=h.kept (A2 a aC)
theorem Az.mono{L:List MRow}(h:Az B w L)(a:B'<=B):Az B' w L:=⟨fun r b=>Cu (h.1 r b) a,h.2⟩
theorem Az.lt{L:List MRow}(h:Az B w L){r:MRow}(a:r∈L)(b:r.v.ownBlock=aD g):B<=g/\g<w.heap.size:=b6 (h.1 r a) g b
theorem Az.join{L N:List MRow}(h:Az B w L)(a:Az w.heap.size w' N)(c:Below w.heap.size w w')(d:B<=w.heap.size):Az B w' (N++L):=by
 have f:=h.V c;refine⟨fun r b=>?_,aY.2 ⟨a.2,h.2,fun r b s i=>?_⟩⟩
 ·rcases bR.1 b with h1 | h1
  ·exact Cu (a.1 r h1) d
  ·exact f.1 r h1
 ·cases j:r.v.ownBlock with
  | none=>exact bd rfl
  | some g =>
   refine aK fun e=>?_
   have h1:=(a.lt b j).1;have k:=(h.lt i e.symm).2;omega
theorem Az.cons{L:List MRow}{r:MRow}(h:Az B w L)(a:r.isAt w.heap.size w')(b:Below w.heap.size w w')(c:B<=w.heap.size):Az B w' (r::L) :=
 h.join (N:=[r]) ⟨fun s d=>by rw[bF.1 d];exact a,by simp⟩ b c
theorem Az.head{L:List MRow}{r:MRow}(h:Az B w (r::L)):w.ownsRow B r.e r.size r.v r.n r.xs:=h.1 r (by simp)
theorem Az.tail{L:List MRow}{r:MRow}(h:Az B w (r::L)):Az B w L:=⟨fun s a=>h.1 s (by simp[a]),(a8.1 h.2).2⟩
theorem Az.left{L N:List MRow}(h:Az B w (N++L)):Az B w N:=⟨fun s a=>h.1 s (by simp[a]),(aY.1 h.2).1⟩
theorem Az.right{L N:List MRow}(h:Az B w (N++L)):Az B w L:=⟨fun s a=>h.1 s (by simp[a]),(aY.1 h.2).2.1⟩
theorem Az.turn{L:List MRow}{r r':MRow}(h:Az B w (r::L))(d:r'.v=r.v)(f:r'.isAt B w')(i:w.grownBy w' r.v.ownBlock):Az B w' (r'::L):=by
 have a:=a8.1 h.2;refine⟨fun s b=>?_,a8.2 ⟨fun s b=>by rw[d];exact a.1 s b,a.2⟩⟩;rcases List.mem_cons.1 b with rfl | h1
 ·exact f
 ·refine bo (h.1 s (by simp[h1])) i ?_;rcases a.1 s h1 with c | c
  ·cases j:s.v.ownBlock with
   | none=>exact bd rfl
   | some g=>right;rw[c];simp
  ·exact aK (fun e=>c e.symm)
theorem Az.perm{L N:List MRow}(h:Az B w L)(a:L.Perm N):Az B w N:=by
 refine⟨fun r c=>h.1 r (a.mem_iff.2 c),?_⟩;refine(a.pairwise_iff ?_).1 h.2;intro r s d;rcases d with h1 | h1
 ·by_cases b:s.v.ownBlock=aC
  ·exact bd b
  ·exact aK (by rw[h1];exact b)
 ·exact aK (Ne.symm h1)
def C3(l:List Int):List Value:=l.map (Value.int .i64)
theorem DU(l:List Int):(C3 l).length=l.length:=by simp[C3]
variable {ao:Option Addr}{m:Nat}{ws:List (List UInt8)}
theorem LF(g k:Nat):(⟨g,0,aC⟩:Addr).add k=⟨g,k,aC⟩:=by
 unfold Addr.add;split <;> simp_all
def Ap(w:World)(v:Value)(n size:Nat)(xs:List Value):Prop:=xs.length=n*size/\∃ao a,v=aG ao n a/\(n<=a/\a<=maxLen)/\(n=0\/∃b off,ao=aD ⟨b,off,aC⟩/\∀j u,xs[j]?=aD u->w.cell? ⟨b,off+j,aC⟩=aD u)
theorem Ap.V{size:Nat}(h:Ap w v n size xs)(d:Below w.heap.size w w'):Ap w' v n size xs:=by
 obtain⟨e,ao,f,g,i,a⟩:=h;refine⟨e,ao,f,g,i,?_⟩;rcases a with k | ⟨b,off,l,a⟩
 ·exact .inl k
 ·exact .inr ⟨b,off,l,fun j u c=>(d.cell (World.block_lt_of_cell? w _ (a j u c))).trans (a j u c)⟩
theorem AG{size:Nat}(h:w.ownsRow B e size v n xs):Ap w v n size xs:=by
 refine⟨h.1,?_⟩;have a:=h.2;rcases a with ⟨rfl,rfl⟩ | ⟨g,b,i,rfl,_,_,c,d,_⟩
 ·exact⟨aC,0,rfl,⟨aH _,bn _⟩,.inl rfl⟩
 ·refine⟨aD ⟨g,0,aC⟩,b,rfl,⟨c,d⟩,.inr ⟨g,0,rfl,fun j u f=>?_⟩⟩;have:=h.cells (g:=g) rfl j u f;rw[LF]at this;rw[Nat.zero_add];exact this
theorem Ap.ae{size:Nat}(h:Ap w v n size xs):∃ao a,v=aG ao n a:=by
 obtain⟨_,ao,a,b,_⟩:=h;exact⟨ao,a,b⟩
theorem Ap.at{cap size:Nat}(h:Ap w (aG ao m cap) n size xs)(d:0<n):∃b off,ao=aD ⟨b,off,aC⟩/\∀j u,xs[j]?=aD u->w.cell? ⟨b,off+j,aC⟩=aD u:=by
 obtain⟨_,e,f,a,_,c⟩:=h;cases a
 rcases c with h1 | h1
 ·omega
 ·exact h1
theorem Ap.cap{cap size:Nat}(h:Ap w (aG ao m cap) n size xs):n<=cap/\cap<=maxLen:=by
 obtain⟨_,c,d,a,b,_⟩:=h;cases a
 exact b
theorem Ap.take{cap size:Nat}(h:Ap w (aG ao n cap) n size xs)(k:Nat)(d:k<=n):Ap w (aG ao k cap) k size (xs.take (k*size)):=by
 obtain⟨e,l,m,f,g,c⟩:=h;cases f
 refine⟨?_,ao,cap,rfl,⟨by omega,g.2⟩,?_⟩
 ·rw[List.length_take,e];have:k*size<=n*size:=Nat.mul_le_mul_right _ d;omega
 ·rcases c with o | ⟨b,off,i,c⟩
  ·exact .inl (by omega)
  ·refine .inr ⟨b,off,i,fun j u a=>c j u ?_⟩;rw[List.getElem?_take]at a;split at a
   ·exact a
   ·cases a
theorem Ap.word{cap:Nat}(h:Ap w (aG ao m cap) n 1 (strs ws))(j:Nat)(a:j<ws.length):∃b off,ao=aD ⟨b,off,aC⟩/\w.cell? ⟨b,off+j,aC⟩=aD (aA ⟨ws[j].toArray⟩):=by
 have c:0<n:=by have:=h.1;rw[CO]at this;omega
 obtain⟨b,off,d,e⟩:=h.at c;exact⟨b,off,d,e j _ (Aci ws j a)⟩
theorem Pc(n:Nat)(h:n<16):hexV (Hg n)=n:=by
 have:∀n,n<16->hexV (Hg n)=n:=by decide
 exact this n h
theorem X2(c:UInt8):aJ (16*(c.toNat/16)+c.toNat%16)=c:=by
 apply bL.1;have:=c.toNat_lt;rw[bC,show 16*(c.toNat/16)+c.toNat%16=c.toNat from by omega];omega
theorem SI(w:List UInt8)(rest:List UInt8):On (w.flatMap qb++34::rest)=aD (w,(w.flatMap qb).length+1):=by
 induction w with
 | nil=>rw[List.flatMap_nil,List.nil_append,Gl];simp
 | cons c r b =>
  rw[bK,List.append_assoc];by_cases a:Co c=true
  ·have h:=FI a;rw[show qb c=[c] from by simp[qb,a],List.singleton_append,Gl,if_neg (by omega),if_neg (by omega),if_pos (by omega),b];simp
  ·have d:qb c=[92,Hg (c.toNat/16),Hg (c.toNat%16)]:=by simp[qb,a]
   have e:=c.toNat_lt;rw[d,show ([92,Hg (c.toNat/16),Hg (c.toNat%16)]++(r.flatMap qb++34::rest))=92::(Hg (c.toNat/16)::Hg (c.toNat%16)::(r.flatMap qb++34::rest)) from rfl,Gl,if_neg (by decide),if_pos (by decide),MC,Pc _ (by omega),Pc _ (by omega),if_pos (by omega),b,X2];simp
theorem MR:∀(f:Nat) (acc:List (List UInt8)) (l:List UInt8),(∀w∈acc,w.length<=200)->∀w∈(Ga f acc l).getD [],w.length<=200
 | 0,acc,[],h=>by simpa [Ga] using h
 | 0,acc,_::_,h=>by simp[Ga]
 | f+1,acc,[],h=>by simpa [Ga] using h
 | f+1,acc,c::r,h=>by
  rw[Ga];split
  ·exact MR f acc r h
  ·split
   ·simpa using h
   ·split
    ·simp
    ·rename_i x n _;split
     ·rename_i a;refine MR f _ _ ?_;intro w b;rcases bR.1 b with h1 | h1
      ·exact h w h1
      ·rw[bF.1 h1];exact a.2.1
     ·simp
theorem Zy(l:List UInt8):∀w∈(cutL l).getD [],w.length<=200:=MR _ _ _ (by simp)
section
open Go.Shelf
def ren:br:=⟨fun | 167=>102 | 240=>163 | 276=>218 | 169=>71 | 316=>248 | n=>n,fun | 0=>0 | 3=>3 | 4=>4 | 5=>5 | 9=>9 | 20=>20 | 37=>22 | 70=>98 | 72=>100 | 75=>106 | 80=>104 | 127=>196 | 164=>200 | n=>n,fun | n=>n⟩
theorem Ac9:b3 prog ren:={
 mixed:=by kernel_rfl
 f167:=Tryz.func102.trans (congrArg aD (by kernel_rfl))
 f240:=Tryz.func163.trans (congrArg aD (by kernel_rfl))
 f276:=Tryz.func218.trans (congrArg aD (by kernel_rfl))
 t0:=underlying0
 a0:=bl
 z0:=bc
 v0:=aT
 t4:=underlying4
 a4:=bB
 z4:=bv
 v4:=bm
 t5:=underlying5
 a5:=aX
 z5:=aR
 v5:=aN
 t9:=underlying9
 a9:=aW
 z9:=aQ
 v9:=aM
 t20:=underlying20
 a20:=Tryz.isAgg20
 z20:=Tryz.sizeOf20
 v20:=Tryz.zeroValue20
 t37:=underlying22
 a37:=bw
 z37:=bt
 v37:=bf
 t70:=underlying98
 a70:=bY
 z70:=bU
 v70:=bM
 t72:=underlying100
 a72:=bW
 z72:=bT
 v72:=bH
 t75:=underlying106
 a75:=Tryz.isAgg106
 z75:=Tryz.sizeOf106
 v75:=Tryz.zeroValue106
 t164:=underlying200
 a164:=Tryz.isAgg200
 z164:=Tryz.sizeOf200
 v164:=Tryz.zeroValue200 }
theorem Ada:b2 prog ren:={
 mixed:=by kernel_rfl
 f169:=Tryz.func71.trans (congrArg aD (by kernel_rfl))
 t0:=underlying0
 a0:=bl
 z0:=bc
 v0:=aT
 t3:=underlying3
 a3:=bk
 z3:=bb
 v3:=aS
 t9:=underlying9
 a9:=aW
 z9:=aQ
 v9:=aM
 t37:=underlying22
 a37:=bw
 z37:=bt
 v37:=bf
 t70:=underlying98
 a70:=bY
 z70:=bU
 v70:=bM
 t72:=underlying100
 a72:=bW
 z72:=bT
 v72:=bH
 t127:=underlying196
 a127:=bV
 z127:=bS
 v127:=bG }
theorem Aec:Builder.Extra prog ren:={
 sizeBuilder:=by kernel_rfl
 liesBuilder:=by kernel_rfl
 t5:=underlying5
 a5:=aX
 z5:=aR
 v5:=aN
 infoByte:=by kernel_rfl
 cellsByte:=by kernel_rfl
 sizeByte:=by kernel_rfl
 neB5:=by decide }
theorem ZU:bX prog ren:={
 mixed:=by kernel_rfl
 f316:=Tryz.func248.trans (congrArg aD (by kernel_rfl))
 t0:=underlying0
 a0:=bl
 z0:=bc
 v0:=aT
 t3:=underlying3
 a3:=bk
 z3:=bb
 v3:=aS
 t4:=underlying4
 a4:=bB
 z4:=bv
 v4:=bm
 t9:=underlying9
 a9:=aW
 z9:=aQ
 v9:=aM
 t37:=underlying22
 a37:=bw
 z37:=bt
 v37:=bf
 t127:=underlying196
 a127:=bV
 z127:=bS
 v127:=bG
 t5:=underlying5
 a5:=aX
 z5:=aR
 v5:=aN
 i0:=by kernel_rfl
 i3:=by kernel_rfl
 i4:=by kernel_rfl
 i5:=by kernel_rfl
 i9:=by kernel_rfl
 i37:=by kernel_rfl
 i127:=by kernel_rfl }
open Go.RowKit in
theorem Fe(B b:Nat)(bs:List Value)(c:Int)(w:World)(h:aL 100 5 B b bs w)(a:bs.length+1<=140737488355328)(d:B<=w.heap.size):
  Calls prog 102 #[bP (aD ⟨b,0,aC⟩),.int .u8 c] w fun e w'=>e=aB .nilIface/\(Lib.BuilderAt 100 5 B b (bP (aD ⟨b,0,aC⟩)) (bs++[.int .u8 c]) w'/\Below B w w'):=Any.Builder_WriteByte Ac9 Aec B b bs c w h a d
open Go.RowKit in
theorem Oy(B b:Nat)(l:List UInt8)(w:World)(h:aL 100 5 B b (aF l) w)(a:B<=w.heap.size):
  Calls prog 71 #[bP (aD ⟨b,0,aC⟩)] w fun e w'=>e=aB (aA ⟨l.toArray⟩)/\Below B w w':=Any.Builder_String_any Ada Aec B b l w h a
open Go.RowKit in
theorem Vp(s:ByteArray)(w:World)(a:s.size<=281474976710656):
  Calls prog 248 #[aA s] w fun e w'=>e=aB (aA s)/\Below w.heap.size w w':=Any.stringslite_Clone ZU s w a
end
theorem Tn{c:UInt8}(h1:32<=(c.toNat:Int))(a:(c.toNat:Int)<=126):((c.toNat:Int) != 34&&(c.toNat:Int) != 92)=Co c:=by
 by_cases h:(c.toNat≠34/\c.toNat≠92)
 ·rw[Kh (by omega)];simp;omega
 ·rw[Ki (by omega)];simp;omega
theorem Ht(c:UInt8)(w:World):Calls prog 249 #[.int .u8 (c.toNat:Int)] w fun e w'=>e=aB (.bool (Co c))/\w'=w:=by
 have a:c.toNat<256:=c.toNat_lt;go_enter func249,ntmps249;go_wp2
 all_goals
  go_ret;refine⟨Au ?_,rfl⟩;first | exact Tn ‹_› ‹_› | exact(Ki (by omega)).symm
theorem Oz{c:UInt8}(a:Co c=true)(h:¬(c.toNat:Int)=32):((c.toNat:Int) != 35)=BI c:=by
 have:=FI a;by_cases b:c.toNat=35
 ·rw[Ji (by omega)];simp;omega
 ·rw[Sw (by omega)];simp;omega
theorem Nw{c:UInt8}(a:Co c=false):BI c=false:=by
 apply Ji;intro h;rw[Kh (by omega)]at a;exact bi a
theorem IZ(c:UInt8)(w:World):Calls prog 247 #[.int .u8 (c.toNat:Int)] w fun e w'=>e=aB (.bool (BI c))/\w'=w:=by
 have h:c.toNat<256:=c.toNat_lt;have b:=Ht c w;cases f:Co c <;> rw[f]at b
 ·have a:=Nw f;rw[a];go_enter func247,ntmps247;go_wp2_with (go_at_call 249;refine b.mono ?_;rintro e w' ⟨rfl,rfl⟩)
  go_ret;exact⟨rfl,rfl⟩
 ·by_cases d:(c.toNat:Int)=32
  ·have a:BI c=false:=Ji (by omega);have g:((c.toNat:Int) != 32)=false:=by simp[d]
   rw[a];clear d;go_enter func247,ntmps247;go_wp2_with (go_at_call 249;refine b.mono ?_;rintro e w' ⟨rfl,rfl⟩)
   all_goals (go_ret;exact⟨rfl,rfl⟩)
  ·have a:=Oz f d;have g:((c.toNat:Int) != 32)=true:=by simp[d]
   rw[<-a];clear a;go_enter func247,ntmps247;go_wp2_with (go_at_call 249;refine b.mono ?_;rintro e w' ⟨rfl,rfl⟩)
   all_goals (go_ret;exact⟨rfl,rfl⟩)
section
open Go.Shelf
def lays161_ren:br:=⟨fun | 161=>255 | 231=>265 | 227=>266 | 233=>267 | 235=>268 | 228=>276 | 197=>277 | 151=>278 | 260=>288 | 152=>289 | 137=>294 | 119=>295 | 224=>252 | 225=>251 | 217=>250 | 266=>263 | n=>n,fun | 9=>9 | 4=>4 | 3=>3 | 5=>5 | 117=>322 | 116=>321 | 0=>0 | 124=>325 | 105=>335 | 21=>21 | 119=>353 | 46=>215 | 139=>356 | 138=>355 | n=>n,fun | 3=>6 | 4=>7 | n=>n⟩
theorem Adb:b4 prog lays161_ren:={
 mixed:=by kernel_rfl
 f119:=Tryz.func295.trans (congrArg aD (by kernel_rfl))
 f137:=bZ.trans (congrArg aD (by kernel_rfl))
 f151:=Tryz.func278.trans (congrArg aD (by kernel_rfl))
 f152:=Tryz.func289.trans (congrArg aD (by kernel_rfl))
 f161:=Tryz.func255.trans (congrArg aD (by kernel_rfl))
 f197:=Tryz.func277.trans (congrArg aD (by kernel_rfl))
 f217:=b1.trans (congrArg aD (by kernel_rfl))
 f224:=Tryz.func252.trans (congrArg aD (by kernel_rfl))
 f225:=Tryz.func251.trans (congrArg aD (by kernel_rfl))
 f227:=Tryz.func266.trans (congrArg aD (by kernel_rfl))
 f228:=Tryz.func276.trans (congrArg aD (by kernel_rfl))
 f231:=Tryz.func265.trans (congrArg aD (by kernel_rfl))
 f233:=Tryz.func267.trans (congrArg aD (by kernel_rfl))
 f235:=Tryz.func268.trans (congrArg aD (by kernel_rfl))
 f260:=Tryz.func288.trans (congrArg aD (by kernel_rfl))
 f266:=b0.trans (congrArg aD (by kernel_rfl))
 t0:=underlying0
 a0:=bl
 z0:=bc
 v0:=aT
 t3:=underlying3
 a3:=bk
 z3:=bb
 v3:=aS
 t4:=underlying4
 a4:=bB
 z4:=bv
 v4:=bm
 t5:=underlying5
 a5:=aX
 z5:=aR
 v5:=aN
 t9:=underlying9
 a9:=aW
 z9:=aQ
 v9:=aM
 t21:=underlying21
 a21:=Tryz.isAgg21
 z21:=Tryz.sizeOf21
 v21:=Tryz.zeroValue21
 t46:=underlying215
 a46:=Tryz.isAgg215
 z46:=Tryz.sizeOf215
 v46:=Tryz.zeroValue215
 t105:=underlying335
 a105:=Tryz.isAgg335
 z105:=Tryz.sizeOf335
 v105:=Tryz.zeroValue335
 t116:=underlying321
 a116:=Tryz.isAgg321
 z116:=Tryz.sizeOf321
 t117:=underlying322
 a117:=Tryz.isAgg322
 z117:=Tryz.sizeOf322
 v117:=Tryz.zeroValue322
 t119:=underlying353
 a119:=Tryz.isAgg353
 z119:=Tryz.sizeOf353
 t124:=underlying325
 a124:=Tryz.isAgg325
 z124:=Tryz.sizeOf325
 v124:=Tryz.zeroValue325
 t138:=underlying355
 a138:=Tryz.isAgg355
 z138:=Tryz.sizeOf355
 v138:=Tryz.zeroValue355
 t139:=underlying356
 a139:=Tryz.isAgg356
 z139:=Tryz.sizeOf356
 v139:=Tryz.zeroValue356
 g3:=by kernel_rfl
 g4:=by kernel_rfl }
open Go.RowKit in
theorem strings_TrimLeft_one(s:ByteArray)(c:UInt8)(a:c.toNat<128)(w:World):
  Calls prog 255 #[aA s,aA ⟨#[c]⟩] w fun e w'=>e=aB (aA ⟨(Lib.trimLeftB s.data.toList c).toArray⟩)/\w'=w:=Any.strings_TrimLeft_one Adb s c a w
def lays137_ren:br:=⟨fun | 137=>294 | 217=>250 | 266=>263 | n=>n,fun | 9=>9 | 5=>5 | 3=>3 | n=>n,fun | n=>n⟩
theorem Adc:b5 prog lays137_ren:={
 mixed:=by kernel_rfl
 f137:=bZ.trans (congrArg aD (by kernel_rfl))
 f217:=b1.trans (congrArg aD (by kernel_rfl))
 f266:=b0.trans (congrArg aD (by kernel_rfl))
 t3:=underlying3
 a3:=bk
 z3:=bb
 v3:=aS
 t5:=underlying5
 a5:=aX
 z5:=aR
 v5:=aN
 t9:=underlying9
 a9:=aW
 z9:=aQ
 v9:=aM }
open Go.RowKit in
theorem strings_IndexByte(s:ByteArray)(c:Int)(w:World):
  Calls prog 294 #[aA s,.int .u8 c] w fun e w'=>e=aB (.int .i64 (bu s.data.toList c.toNat.toUInt8))/\w'=w:=Any.strings_IndexByte Adc s c w
end
def hexI(c:UInt8):Int:=if hexV c<16 then (hexV c:Int) else -1
theorem ZV(c:UInt8):(((c.toNat:Int)==32) || ((c.toNat:Int)==35))=decide (c.toNat=32\/c.toNat=35):=by
 rw[Bool.eq_iff_iff];simp;omega
theorem JF(t:ByteArray)(w:World)(f:t.size<=1048576):Calls prog 257 #[aA t] w fun e w'=>e=aB (.bool (Fh t.data.toList))/\w'=w:=by
 by_cases a:t.size=0
 ·have b:t=⟨#[]⟩:=by apply aV;exact be a
  subst b;go_enter func257,ntmps257;go_wp2;go_ret;exact⟨rfl,rfl⟩
 ·have g:(0:Int)<(t.size:Int):=by omega
  have c:0<t.size:=by omega
  have i:t.toList.isEmpty=false:=by rw[aU];cases h:t.data.toList with | nil=>exact absurd (by rw[Lib.size_eq,h];rfl) a | cons _ _=>rfl
  have d:Hid (Fh t.data.toList=decide (t[0].toNat=32\/t[0].toNat=35)):=by
   show _=_
   have:=CH t 0 c;rw[bq]at this;rw[this];rfl
  go_enter func257,ntmps257;go_wp2
  all_goals
   go_ret;refine⟨Au ?_,rfl⟩;rw[d.out];first | exact(decide_eq_true (by omega)).symm | exact ZV t[0]
def qB:List UInt8->Option (UInt8 × Nat)
 | []=>aC
 | c::r=>if Co c=true then aD (c,1) else if c.toNat=92 then (match r with | a::b::_=>if hexV a<16/\hexV b<16 then aD (aJ (16*hexV a+hexV b),3) else aC | _=>aC) else aC
theorem Aft(t:ByteArray)(h:2<t.size):t.data.toList=t[0]::t[1]::t[2]::t.data.toList.drop 3:=by
 have a:=CH t 0 (by omega);have h1:=CH t 1 (by omega);have b:=CH t 2 (by omega);rw[bq]at a;exact a.trans (congrArg _ (h1.trans (congrArg _ b)))
theorem FU(t:ByteArray)(h:0<t.size):t.data.toList=t[0]::t.data.toList.drop 1:=by
 have a:=CH t 0 h;rw[bq]at a;exact a
theorem ZW(t:ByteArray)(h:0<t.size)(a:Co t[0]=true):qB t.data.toList=aD (t[0],1):=by
 rw[FU t h];simp[qB,a]
theorem ZX(t:ByteArray)(h:0<t.size)(a:Co t[0]=false)(b:t[0].toNat≠92):qB t.data.toList=aC:=by
 rw[FU t h];simp[qB,a,b]
theorem ZY(t:ByteArray)(h:0<t.size)(a:Co t[0]=false)(c:t.size<3):qB t.data.toList=aC:=by
 have b:(t.data.toList.drop 1).length<=1:=by simp;omega
 rw[FU t h]
 match t.data.toList.drop 1,b with
 | [],_=>simp[qB,a]
 | [_],_=>simp[qB,a]
theorem Aer(t:ByteArray)(h:2<t.size)(a:t[0].toNat=92):qB t.data.toList=if hexV t[1]<16/\hexV t[2]<16 then aD (aJ (16*hexV t[1]+hexV t[2]),3) else aC:=by
 have b:Co t[0]=false:=Ki (by omega);rw[Aft t h];simp[qB,b,a]
theorem ZZ(c:UInt8):bu [48,49,50,51,52,53,54,55,56,57,97,98,99,100,101,102] c=hexI c:=by
 have h:∀n,n<256->bu [48,49,50,51,52,53,54,55,56,57,97,98,99,100,101,102] n.toUInt8=hexI n.toUInt8:=by decide +kernel
 have:=h c.toNat c.toNat_lt;simpa using this
theorem JG(c:UInt8)(w:World):Calls prog 294 #[aA ⟨#[48,49,50,51,52,53,54,55,56,57,97,98,99,100,101,102]⟩,.int .u8 (c.toNat:Int)] w fun e w'=>e=aB (.int .i64 (hexI c))/\w'=w:=by
 have a:=strings_IndexByte ⟨#[48,49,50,51,52,53,54,55,56,57,97,98,99,100,101,102]⟩ (c.toNat:Int) w;have e:((c.toNat:Int)).toNat.toUInt8=c:=by simp
 rw[e]at a;have b:=ZZ c;rw[show (⟨#[48,49,50,51,52,53,54,55,56,57,97,98,99,100,101,102]⟩:ByteArray).data.toList=[48,49,50,51,52,53,54,55,56,57,97,98,99,100,101,102] from rfl,b]at a;exact a
def qV(o:Option (UInt8 × Nat)):Value:=match o with | none=>aP #[.int .u8 0,.int .i64 0] | some p=>aP #[.int .u8 (p.1.toNat:Int),.int .i64 (p.2:Int)]
theorem Add(a b:Nat)(c:a<16)(d:b<16):((aJ (16*a+b)).toNat:Int)=(a:Int)*16+(b:Int):=by
 have:(aJ (16*a+b)).toNat=16*a+b:=by
  rw[bC];omega
 rw[this];omega
theorem Afu{a b:Nat}(h:((aJ (16*a+b)).toNat:Int)=(a:Int)*16+(b:Int)):Value.tuple #[.int .u8 ((a:Int)*16+(b:Int)),.int .i64 3]=qV (aD (aJ (16*a+b),3)):=by
 unfold qV;simp only[h];rfl
theorem WX{c:UInt8}(h:hexV c<16):hexI c=(hexV c:Int):=by simp[hexI,h]
theorem WY{c:UInt8}(h:¬hexV c<16):hexI c=-1:=by simp[hexI,h]
theorem Nx(t:ByteArray)(w:World)(m:0<t.size)(s:t.size<=1048576):Calls prog 333 #[aA t] w fun e w'=>e=aB (qV (qB t.data.toList))/\w'=w:=by
 have u:(0:Int)<(t.size:Int):=by omega
 have f:=Ht t[0] w;cases d:Co t[0] <;> rw[d]at f
 ·by_cases j:t[0].toNat=92
  ·have o:((t[0].toNat:Int) != 92)=false:=by rw[bne_eq_false_iff_eq];omega
   by_cases p:t.size<3
   ·rw[ZY t m d p];have q:(t.size:Int)<3:=by omega
    clear j d;go_enter func333,ntmps333;go_wp2_with (go_at_call 249;refine f.mono ?_;rintro e w' ⟨rfl,rfl⟩)
    go_ret2
    exact⟨rfl,rfl⟩
   ·have q:¬(t.size:Int)<3:=by omega
    have v:(1:Int)<(t.size:Int):=by omega
    have x:(2:Int)<(t.size:Int):=by omega
    have k:=JG (t[1]'(by omega)) w;have l:=JG (t[2]'(by omega)) w;have c:=Aer t (by omega) j;clear j d;by_cases g:hexV (t[1]'(by omega))<16
    ·rw[WX g]at k;by_cases i:hexV (t[2]'(by omega))<16
     ·rw[WX i]at l;rw[if_pos ⟨g,i⟩]at c;rw[c];have n:=Add _ _ g i;have r:Hid _:=n;clear c n;generalize hexV (t[1]'(by omega))=a at *;generalize hexV (t[2]'(by omega))=b at *;go_enter func333,ntmps333;go_wp2_with (go_at_call 249;refine f.mono ?_;rintro e w' ⟨rfl,rfl⟩)
      refine k.mono ?_;rintro e w' ⟨rfl,rfl⟩;go_wp2_with fail
      refine l.mono ?_;rintro e w' ⟨rfl,rfl⟩;go_wp2;go_ret2
      exact⟨WM (Afu r.out),rfl⟩
     ·rw[WY i]at l;rw[if_neg (fun h=>i h.2)]at c;rw[c];clear c i;generalize hexV (t[1]'(by omega))=a at *;go_enter func333,ntmps333;go_wp2_with (go_at_call 249;refine f.mono ?_;rintro e w' ⟨rfl,rfl⟩)
      refine k.mono ?_;rintro e w' ⟨rfl,rfl⟩;go_wp2_with fail
      refine l.mono ?_;rintro e w' ⟨rfl,rfl⟩;go_wp2;go_ret2
      exact⟨rfl,rfl⟩
    ·rw[WY g]at k;rw[if_neg (fun h=>g h.1)]at c;rw[c];clear c g;generalize hexI (t[2]'(by omega))=b at *;go_enter func333,ntmps333;go_wp2_with (go_at_call 249;refine f.mono ?_;rintro e w' ⟨rfl,rfl⟩)
     refine k.mono ?_;rintro e w' ⟨rfl,rfl⟩;go_wp2_with fail
     refine l.mono ?_;rintro e w' ⟨rfl,rfl⟩;go_wp2;go_ret2
     exact⟨rfl,rfl⟩
  ·rw[ZX t m d j];have o:((t[0].toNat:Int) != 92)=true:=by rw[bne_iff_ne];omega
   clear j d;go_enter func333,ntmps333;go_wp2_with (go_at_call 249;refine f.mono ?_;rintro e w' ⟨rfl,rfl⟩)
   go_ret2
   exact⟨rfl,rfl⟩
 ·rw[ZW t m d];clear d;go_enter func333,ntmps333;go_wp2_with (go_at_call 249;refine f.mono ?_;rintro e w' ⟨rfl,rfl⟩)
  go_ret2
  exact⟨rfl,rfl⟩
theorem XZ(s:ByteArray)(h:s.data.toList.all BI=true):(!s.toList.isEmpty)=CW s.data.toList:=by
 unfold CW;rw[h,aU];simp
theorem Aaa(s:ByteArray)(k:Nat)(a:k<s.size)(h:BI s[k]=false):CW s.data.toList=false:=by
 unfold CW;have:s.data.toList.all BI=false:=by
  rw[List.all_eq_false];exact⟨s[k],by simp[ByteArray.getElem_eq_getElem_data],by simp[h]⟩
 rw[this];simp
theorem Ny(s:ByteArray)(w:World)(j:s.size<=1048576):Calls prog 226 #[aA s] w fun e w'=>e=aB (.bool (CW s.data.toList))/\w'=w:=by
 go_enter func226,ntmps226;go_wp2;go_loop [3,6] (fun _ c=>∃k:Nat,k<=s.size/\c=.int .i64 k/\(s.data.toList.take k).all BI=true) (fun _ c=>s.size-(intOf c).toNat)
 case atStart=>exact⟨0,bn _,rfl,by simp⟩
 case round =>
  obtain⟨k,l,rfl,f⟩:=hrel;have g:Hid ((s.data.toList.take k).all BI=true):=f;clear f;by_cases h:k<s.size
  ·cases a:BI s[k]
   ·have b:Hid (CW s.data.toList=false):=Aaa s k h a;have d:=IZ s[k] w;rw[a]at d;clear a;go_wp2_with (go_at_call 247;refine d.mono ?_;rintro e w' ⟨rfl,rfl⟩)
    go_ret;exact⟨Au b.out.symm,rfl⟩
   ·have b:Hid ((s.data.toList.take (k+1)).all BI=true):=by have:=Sx s k h;rw[this,g.out,a];rfl
    have d:=IZ s[k] w;rw[a]at d;clear a;go_wp2_with (go_at_call 247;refine d.mono ?_;rintro e w' ⟨rfl,rfl⟩)
    go_round
    case rel=>exact⟨k+1,by omega,by go_num,b.out⟩
    case measure=>simp[intOf];omega
  ·have i:k=s.size:=by omega
   subst i;have b:Hid ((!s.toList.isEmpty)=CW s.data.toList):=XZ s (by rw[<-Jj s];exact g.out);go_wp2;go_ret;exact⟨Au b.out,rfl⟩
theorem KF(s:ByteArray)(w:World)(b:s.size<=1048576):Calls prog 227 #[aA s] w fun e w'=>e=aB (aA s)/\Below w.heap.size w w':=by
 go_enter func227,ntmps227;go_wp2_with (go_at_call 248;refine(Vp s _ (by omega)).mono ?_;rintro e w' ⟨rfl,a⟩)
 go_ret;exact⟨rfl,a⟩
theorem Aab(n:Nat)(h:n<(⟨#[48,49,50,51,52,53,54,55,56,57,97,98,99,100,101,102]⟩:ByteArray).size):(⟨#[48,49,50,51,52,53,54,55,56,57,97,98,99,100,101,102]⟩:ByteArray)[n]=Hg n :=
 match n,h with
 | 0,_=>rfl
 | 1,_=>rfl
 | 2,_=>rfl
 | 3,_=>rfl
 | 4,_=>rfl
 | 5,_=>rfl
 | 6,_=>rfl
 | 7,_=>rfl
 | 8,_=>rfl
 | 9,_=>rfl
 | 10,_=>rfl
 | 11,_=>rfl
 | 12,_=>rfl
 | 13,_=>rfl
 | 14,_=>rfl
 | 15,_=>rfl
 | n+16,h=>absurd h (by show ¬n+16<16;omega)
theorem Afv{c:UInt8}(h:Co c=false):qb c=[92,Hg (c.toNat/16),Hg (c.toNat%16)]:=by simp[qb,h]
theorem Aes{c:UInt8}(h:Co c=true):qb c=[c]:=by simp[qb,h]
theorem L8(B b:Nat)(bs:List Value)(c:UInt8)(w:World)(h:aL 100 5 B b bs w)(n:bs.length+3<=140737488355328)(i:B<=w.heap.size):
  Calls prog 228 #[bP (aD ⟨b,0,aC⟩),.int .u8 (c.toNat:Int)] w fun e w'=>e=aB (aP #[])/\(aL 100 5 B b (bs++aF (qb c)) w'/\Below B w w'):=by
 have o:c.toNat<256:=c.toNat_lt;have a:=Ht c w;cases d:Co c <;> rw[d]at a
 ·have g:Hid (qb c=[92,Hg (c.toNat/16),Hg (c.toNat%16)]):=Afv d;go_enter func228,ntmps228;go_wp2_with (go_at_call 249;refine a.mono ?_;rintro e w' ⟨rfl,rfl⟩)
  refine(Fe B b bs 92 _ h (by omega) i).mono ?_;rintro e w1 ⟨rfl,h1,f⟩;have p:=f.size;clear a d;go_wp2_with fail
  refine(Fe B b _ _ _ (aK h1) (by simp;omega) (by omega)).mono ?_;rintro e w2 ⟨rfl,l,j⟩;have q:=j.size;go_wp2_with fail
  refine(Fe B b _ _ _ (aK l) (by simp;omega) (by omega)).mono ?_;rintro e w3 ⟨rfl,k,m⟩;go_wp2;go_end0
  refine⟨rfl,aK ?_,f.trans (j.trans m)⟩;rw[g.out];rw[Aab,Aab]at k;simpa [aF] using k
 ·have g:Hid (qb c=[c]):=Aes d;go_enter func228,ntmps228;go_wp2_with (go_at_call 249;refine a.mono ?_;rintro e w' ⟨rfl,rfl⟩)
  refine(Fe B b bs (c.toNat:Int) _ h (by omega) i).mono ?_;rintro e w1 ⟨rfl,h1,f⟩;go_wp2;refine bodyPost_ret (v:=aP #[]) (by simp[results,results228,go_sem]) rfl ⟨rfl,aK ?_,f⟩;rw[g.out];simpa [aF] using h1
theorem Vq(t:ByteArray)(k:Nat)(c:k<=t.size)(a:(t.data.toList.take k).all BI=true)(hend:k=t.size\/∃h:k<t.size,BI t[k]=false):t.data.toList.takeWhile BI=t.data.toList.take k:=by
 have e:t.data.toList=t.data.toList.take k++t.data.toList.drop k:=(List.take_append_drop k _).symm;have h1:∀x∈t.data.toList.take k,BI x=true:=bN.1 a
 conv=>lhs;rw[e]
 rw[List.takeWhile_append_of_pos h1];rcases hend with rfl | ⟨h,b⟩
 ·rw[bz (by simp)];simp
 ·rw[CH t k h,bD];simp[b]
def O0(t:ByteArray)(e:Ending):Prop:=∃(a b:ByteArray) (ok:Bool),e=aB (aP #[aA a,aA b,.bool ok]) /\
 ((DM t.data.toList=aC/\ok=false)\/∃x n,DM t.data.toList=aD (x,n)/\ok=true/\a=⟨x.toArray⟩/\b=t.extract n t.size)
theorem Ya(t:ByteArray)(g:0<t.size)(c:t[0].toNat≠34)(k:Nat)(i:k<=t.size)(d:(t.data.toList.take k).all BI=true)(hend:k=t.size\/∃h:k<t.size,BI t[k]=false):
  O0 t (aB (aP #[aA (t.extract 0 k),aA (t.extract k t.size),.bool (decide (0<k))])):=by
 have e:=Vq t k i d hend;refine⟨_,_,_,rfl,?_⟩;have b:=FU t g;by_cases f:k=0
 ·left;subst f;refine⟨?_,rfl⟩;have a:BI t[0]=false:=by
   rcases hend with h | ⟨_,h⟩
   ·omega
   ·exact h
  rw[b,DM,if_neg c,if_pos a]
 ·right;have a:¬BI t[0]=false:=by
   intro a;have j:t[0]∈t.data.toList.take k:=by
    rw[b];match k,f with | k+1,_=>simp
   have:=bN.1 d _ j;rw[a]at this;exact bi this
  refine⟨t.data.toList.take k,k,?_,by simp;omega,UJ t k,rfl⟩;rw[<-e];have:k=(t.data.toList.takeWhile BI).length:=by rw[e];simp;omega
  conv=>rhs;rw[this]
  conv=>lhs;rw[b]
  rw[DM,if_neg c,if_neg a,<-b]
theorem Ql(t:ByteArray)(w:World)(m:0<t.size)(j:t[0].toNat≠34)(o:t.size<=1048576):
  Calls prog 334 #[aZ #[],aA t] w fun e w'=>O0 t e/\Below w.heap.size w w':=by
 have a:=fun k d b hend=>(show Hid (O0 t (aB (aP #[aA (t.extract 0 k),aA (t.extract k t.size),.bool (decide (0<k))]))) from Ya t m j k d b hend)
 clear j;go_enter func334,ntmps334;go_wp2;go_loop [7] (fun i=>∃k:Nat,k<=t.size/\i=.int .i64 k/\Hid ((t.data.toList.take k).all BI=true)) (fun i=>t.size-(intOf i).toNat)
 case atStart=>exact⟨0,bn _,rfl,by show _=_;simp⟩
 case round =>
  obtain⟨k,d,rfl,b⟩:=hrel;by_cases l:k<t.size
  ·have f:=IZ t[k] (w.alloc (bj #[] 328));cases c:BI t[k] <;> rw[c]at f
   ·have g:Hid (O0 t (aB (aP #[aA (t.extract 0 k),aA (t.extract k t.size),.bool (decide (0<k))]))):=a k d b.out (aK ⟨l,c⟩);clear a c;go_wp2_with (go_at_call 247;refine f.mono ?_;rintro e w' ⟨rfl,rfl⟩)
    go_region_held3 (fun _=>True) (first | trivial | exact b7)
     (first | (go_at_call 227;refine(KF (t.extract 0 k) _ ?_).mono ?_;(simp;omega);rintro e w1 ⟨rfl,h⟩))
    all_goals
     go_wp2;go_ret3
     exact⟨g.out,(((aO _ w).alloc (aH _) _).drew).trans (h.mono (by simp))⟩
   ·have n:Hid ((t.data.toList.take (k+1)).all BI=true):=by show _=_;rw[Sx t k l,b.out,c];rfl
    clear a c;go_wp2_with (go_at_call 247;refine f.mono ?_;rintro e w' ⟨rfl,rfl⟩)
    go_round
    case rel=>exact⟨k+1,by omega,by go_num,n⟩
    case measure=>simp[intOf];omega
  ·have g:Hid (O0 t (aB (aP #[aA (t.extract 0 k),aA (t.extract k t.size),.bool (decide (0<k))]))):=a k d b.out (bd (by omega));clear a;go_wp2
   go_region_held3 (fun _=>True) (first | trivial | exact b7)
    (first | (go_at_call 227;refine(KF (t.extract 0 k) _ ?_).mono ?_;(simp;omega);rintro e w1 ⟨rfl,h⟩))
   all_goals
    go_wp2;go_ret3
    exact⟨g.out,(((aO _ w).alloc (aH _) _).drew).trans (h.mono (by simp))⟩
theorem Aet(L:List UInt8)(c:UInt8)(r:List UInt8)(i:L=c::r)(j:c.toNat≠34):On L=match qB L with | none=>aC | some p=>(On (L.drop p.2)).map (fun q=>(p.1::q.1,q.2+p.2)):=by
 subst i;rw[Gl,if_neg j];by_cases f:Co c=true
 ·have:=FI f;rw[if_neg (by omega),if_pos (by omega)];simp[qB,f]
 ·have d:Co c=false:=by simpa using f
  by_cases e:c.toNat=92
  ·rw[if_pos e]
   match r with
   | []=>simp[MC,qB,d,e]
   | [_]=>simp[MC,qB,d,e]
   | a::b::r' =>
    rw[MC];by_cases g:hexV a<16/\hexV b<16
    ·simp[qB,d,e,g]
    ·simp[qB,d,e,g]
  ·rw[if_neg e,if_neg (fun h=>by rw[Kh (by omega)]at d;exact bi d)];simp[qB,d,e]
theorem Aeu(L:List UInt8)(p:UInt8 × Nat)(h:qB L=aD p):1<=p.2/\p.2<=L.length:=by
 match L,h with
 | [c],h=>simp only[qB]at h;split at h <;> simp at h;subst h;simp
 | [c,_],h=>simp only[qB]at h;split at h <;> simp at h;subst h;simp
 | c::a::b::r,h =>
  simp only[qB]at h;split at h
  ·simp at h;subst h;simp
  ·split at h
   ·split at h
    ·simp at h;subst h;simp
    ·simp at h
   ·simp at h
theorem Afw(t:ByteArray)(i:Nat)(acc:List UInt8)(h:i<t.size)(a:t[i].toNat≠34):
  Uq t.data.toList i acc=match qB (t.data.toList.drop i) with | none=>aC | some p=>Uq t.data.toList (i+p.2) (acc++[p.1]):=by
 unfold Uq;rw[Aet (t.data.toList.drop i) _ _ (CH t i h) a];cases qB (t.data.toList.drop i) with
 | none=>rfl
 | some p =>
  simp only[Option.map_map,List.drop_drop];congr 1;funext q;simp;omega
theorem Vr(t:ByteArray)(b:0<t.size)(c:t[0].toNat=34)(x:List UInt8)(n:Nat)(h:Uq t.data.toList 1 []=aD (x,n)):
  O0 t (aB (aP #[aA ⟨x.toArray⟩,aA (t.extract n t.size),.bool true])):=by
 refine⟨_,_,_,rfl,aK ⟨x,n,?_,rfl,rfl,rfl⟩⟩;rw[FU t b,DM,if_pos c];unfold Uq at h;cases a:On (t.data.toList.drop 1) with
 | none=>rw[a]at h;simp at h
 | some p=>rw[a]at h;simp at h;obtain⟨rfl,rfl⟩:=h;simp;omega
theorem O3(t:ByteArray)(c:0<t.size)(d:t[0].toNat=34)(h:Uq t.data.toList 1 []=aC)(a b:ByteArray):
  O0 t (aB (aP #[aA a,aA b,.bool false])):=by
 refine⟨_,_,_,rfl,bd ⟨?_,rfl⟩⟩;rw[FU t c,DM,if_pos d];unfold Uq at h;cases e:On (t.data.toList.drop 1) with
 | none=>rfl
 | some p=>rw[e]at h;simp at h
theorem O4(t:ByteArray)(w:World)(B:0<t.size)(c:t[0].toNat=34)(M:t.size<=1048576):
  Calls prog 332 #[aZ #[],aA t] w fun e w'=>O0 t e/\Below w.heap.size w w':=by
 obtain⟨i0,E,F,G,H⟩:=info_parts Afn;have m:∀x n,Hid (Uq t.data.toList 1 []=aD (x,n))->Hid (O0 t (aB (aP #[aA ⟨x.toArray⟩,aA (t.extract n t.size),.bool true]))):=fun x n h=>Vr t B c x n h
 have j:Hid (Uq t.data.toList 1 []=aC)->∀a b,Hid (O0 t (aB (aP #[aA a,aA b,.bool false]))):=fun h a b=>O3 t B c h a b
 clear c;go_enter func332,ntmps332;go_wp2;go_loopw [7,8] (fun v i wr=>∃(k:Nat) (acc:List UInt8),k<=t.size/\acc.length<=k/\i=.int .i64 k/\wr.ownsRow w.heap.size 5 1 v acc.length (aF acc)/\Below w.heap.size w wr/\Hid (Uq t.data.toList k acc=Uq t.data.toList 1 [])) (fun _ i _=>t.size-(intOf i).toNat)
 case atStart=>exact⟨1,[],by omega,by simp,rfl,ba _ _ _ _,(aO _ _).alloc (aH _) _,rfl⟩
 case round =>
  obtain⟨k,acc,C,N,rfl,s,o,d⟩:=hrel;have O:=o.size;by_cases y:k<t.size
  ·by_cases c:t[k].toNat=34
   ·have I:((t[k].toNat:Int) != 34)=false:=by rw[bne_eq_false_iff_eq];omega
    have q:Hid _:=m acc (k+1) (by show _=_;rw[<-d.out];exact Acg t k acc y c);clear m j d c;have P:=fun n=>Jk (wr.drewN n) _ _ _ _ (Xu s n)
    have Q:¬t.size<=k:=by omega
    go_wp2;go_quiet (fail)
    go_wp2;go_ret3
    exact⟨q.out,below_drewN o _⟩
   ·have I:((t[k].toNat:Int) != 34)=true:=by rw[bne_iff_ne];omega
    have l:=Afw t k acc y c;have f:=fun W=>Nx (t.extract k t.size) W (by simp;omega) (by simp;omega)
    rw[En]at f;have z:=Aeu (t.data.toList.drop k);clear c;cases r:qB (t.data.toList.drop k) with
    | none =>
     rw[r]at l f;simp only[qV]at f;have q:=j (by show _=_;rw[<-d.out];exact l);clear m j d l z r;go_wp2_with (go_at_call 333;refine(f _).mono ?_;rintro e w' ⟨rfl,rfl⟩)
     go_ret3
     exact⟨q _ _,o⟩
    | some p =>
     obtain⟨b,n⟩:=p;rw[r]at l f;simp only[qV]at f;have A:=z _ r;have J:Hid (Uq t.data.toList (k+n) (acc++[b])=Uq t.data.toList 1 []):=by show _=_;rw[<-d.out];exact l.symm
     clear m j d l z r;have R:((n:Int)==0)=false:=by rw[beq_eq_false_iff_ne];omega
     have S:n<=t.size-k:=by have:=A.2;simpa using this
     have T:=A.1;clear A;go_wp2_with (first | (go_at_call 333;refine(f _).mono ?_;rintro e wr ⟨rfl,rfl⟩) | (at_builtin;refine wpList_append_lies _ rfl _ _ 22 rfl w.heap.size 5 i0 (.int .u8 0) 1 1 underlying22 E F G H rfl (by decide) _ acc.length _ rfl (s.alloc _) ⟨wr.heap.size,0,aC⟩ 1 1 [.int .u8 (b.toNat:Int)] rfl rfl (Zf wr _ 5) ?c2 (by decide) ?c3 ?c4 ?c5 (wr.heap.size+1) (by simp) ?_))
     case c2=>intro u D;simp at D;subst D;rfl
     case c3=>unfold maxLen;omega
     case c4=>omega
     case c5=>simp;omega
     intro g U w1 K L V X;go_wp2;go_roundw;case rel =>
      refine⟨k+n,acc++[b],by omega,by simp;omega,by go_num,?_,(o.alloc (by omega) _).grown L (by simp;omega) (fun k C=>(s.lt k C).1),J⟩;rw[bE,aI];exact K
     case measure=>simp[intOf];omega
  ·have q:=j (by show _=_;rw[<-d.out];exact Aej t k acc y);clear m j d;go_wp2;go_ret3
   exact⟨q _ _,o⟩
variable {wr:World}{cs:Array Value}
def Qm(R:Option (List (List UInt8)))(w:World)(e:Ending)(w':World):Prop :=
 ∃v,e=aB (aZ #[v,.bool R.isNone])/\w'.ownsRow w.heap.size 9 1 v (R.getD []).length (strs (R.getD []))/\Below w.heap.size w w'
def Ade:Value->Nat
 | aA s=>s.size
 | _=>0
theorem Nz(t:ByteArray)(w:World):Calls prog 255 #[aA t,aA ⟨#[32]⟩] w fun e w'=>e=aB (aA ⟨(t.data.toList.dropWhile (fun c=>c==32)).toArray⟩)/\w'=w :=
 strings_TrimLeft_one t 32 (by decide) w
theorem Tp(t:ByteArray)(w:World)(b:0<t.size)(a:t[0].toNat=34)(c:t.size<=1048576):Calls prog 256 #[aA t] w fun e w'=>e=aB (.iface 327 (aZ #[]))/\w'=w:=by
 have d:(0:Int)<(t.size:Int):=by omega
 have h:((t[0].toNat:Int)==34)=true:=by rw[beq_iff_eq];omega
 clear a;go_enter func256,ntmps256;go_wp2;go_ret;exact⟨rfl,rfl⟩
theorem Tq(t:ByteArray)(w:World)(b:0<t.size)(a:t[0].toNat≠34)(c:t.size<=1048576):Calls prog 256 #[aA t] w fun e w'=>e=aB (.iface 328 (aZ #[]))/\w'=w:=by
 have d:(0:Int)<(t.size:Int):=by omega
 have h:((t[0].toNat:Int)==34)=false:=by rw[beq_eq_false_iff_ne];omega
 clear a;go_enter func256,ntmps256;go_wp2;go_ret;exact⟨rfl,rfl⟩
theorem KG(s:ByteArray)(a:s.size<=1048576):(⟨(s.data.toList.dropWhile (fun c=>c==32)).toArray⟩:ByteArray).size<=1048576:=by
 have h:(s.data.toList.dropWhile (fun c=>c==32)).length<=s.data.toList.length:=(bA _).length_le;show (s.data.toList.dropWhile (fun c=>c==32)).toArray.size<=_
 have b:s.data.toList.length=s.size:=by simp
 rw[bJ];omega
theorem Tr(s:ByteArray):(⟨(s.data.toList.dropWhile (fun c=>c==32)).toArray⟩:ByteArray).size<=s.size:=by
 have h:(s.data.toList.dropWhile (fun c=>c==32)).length<=s.data.toList.length:=(bA _).length_le;show (s.data.toList.dropWhile (fun c=>c==32)).toArray.size<=_
 have a:s.data.toList.length=s.size:=by simp
 rw[bJ];omega
theorem KH(s:ByteArray):∀h:0<(⟨(s.data.toList.dropWhile (fun c=>c==32)).toArray⟩:ByteArray).size,(⟨(s.data.toList.dropWhile (fun c=>c==32)).toArray⟩:ByteArray)[0].toNat≠32:=by
 intro h;have a:∀b,(fun c:UInt8=>c==32) ((s.data.toList.dropWhile (fun c=>c==32)).head b)=false:=fun b=>List.head_dropWhile_not _ b
 generalize s.data.toList.dropWhile (fun c=>c==32)=l at *
 match l,h,a with
 | c::r,h,a =>
  have:=a (by simp);simp at this;show c.toNat≠32
  intro d;exact this (bL.1 d)
theorem Ts{T:TypeId}{R:Option (List (List UInt8))}{cap:Nat}(a:R=aD acc)(b:wr.ownsRow (w.heap.size+1) 9 1 (aG ao acc.length cap) acc.length (strs acc))
  (c:Below (w.heap.size+1) (w.alloc (bj cs T)) wr) (x y:Value):Qm R w (aB (aZ #[aG ao acc.length cap,.bool false])) ((wr.setCell ⟨w.heap.size,0,aC⟩ x).setCell ⟨w.heap.size,1,aC⟩ y):=by
 subst a;exact⟨_,rfl,Cu (BA (BA b ⟨w.heap.size,0,aC⟩ (bQ _) x) ⟨w.heap.size,1,aC⟩ (bQ _) y) (by omega),((((aO _ w).alloc (aH _) _).trans (c.mono (by omega))).setCell (by simp) _).setCell (by simp) _⟩
theorem FV{T:TypeId}{R:Option (List (List UInt8))}(a:R=aC)
  (b:Below (w.heap.size+1) (w.alloc (bj cs T)) wr) (x y:Value):Qm R w (aB (aZ #[aG aC 0 0,.bool true])) ((wr.setCell ⟨w.heap.size,0,aC⟩ x).setCell ⟨w.heap.size,1,aC⟩ y):=by
 subst a;exact⟨_,rfl,ba _ _ _ _,((((aO _ w).alloc (aH _) _).trans (b.mono (by omega))).setCell (by simp) _).setCell (by simp) _⟩
theorem Tt(t:ByteArray)(a:0<t.size):t.toList.isEmpty=false:=by
 rw[aU,FU t a];rfl
theorem Aac(w : World): (method 493 327 (aZ #[]) "loop.example/wharfsheet/impl.scan").run prog w = .ok (332, aZ #[]) w := by kernel_rfl
theorem Aad(w : World): (method 493 328 (aZ #[]) "loop.example/wharfsheet/impl.scan").run prog w = .ok (334, aZ #[]) w := by kernel_rfl
theorem OB(s:ByteArray)(w:World)(aq:s.size<=1048576):Calls prog 231 #[aA s] w fun e w'=>Qm (cutL s.data.toList) w e w':=by
 obtain⟨i0,al,am,an,ap⟩:=info_parts OR;have ar:Hid (Hc [] s.data.toList (cutL s.data.toList)):=Hc.start _;generalize cutL s.data.toList=R at *;go_enter func231,ntmps231;go_wp2_with (go_at_call 255;refine(Nz s _).mono ?_;rintro e w0 ⟨rfl,rfl⟩)
 go_loopw [3,4] (fun v r wr=>∃(acc:List (List UInt8)) (t:ByteArray) (ao:Option Addr) (V:Nat),acc.length<=8/\t.size<=1048576/\r=aA t/\v=aG ao acc.length V/\wr.ownsRow (w.heap.size+1) 9 1 v acc.length (strs acc)/\Below (w.heap.size+1) (w.alloc (bj #[aG aC 0 0,.bool false] 124)) wr/\Hid (Hc acc t.data.toList R)/\Hid (∀h:0<t.size,t[0].toNat≠32)) (fun _ r _=>Ade r)
 case atStart=>exact⟨[],_,aC,0,by simp,KG s aq,rfl,rfl,ba _ _ _ _,aO _ _,ar.out.trim,KH s⟩
 case round =>
  obtain⟨acc,t,ao,V,a4,W,rfl,rfl,G,y,o,E⟩:=hrel;have Z:=y.size;simp only[World.size_alloc]at Z;have H:wr.cell? ⟨w.heap.size,0,aC⟩=aD (aG aC 0 0):=by rw[y.cell (by simp)];simp
  have I:wr.cell? ⟨w.heap.size,1,aC⟩=aD (.bool false):=by rw[y.cell (by simp)];simp
  have X:wr.frozen? ⟨w.heap.size,0,aC⟩=false:=by rw[y.frozen (by simp)];simp
  have Y:wr.frozen? ⟨w.heap.size,1,aC⟩=false:=by rw[y.frozen (by simp)];simp
  by_cases p:0<t.size
  ·have a5:(0:Int)<(t.size:Int):=by omega
   have a6:t.toList.isEmpty=false:=Tt t p;by_cases q:t[0].toNat=35
   ·have au:((t[0].toNat:Int) != 35)=false:=by rw[bne_eq_false_iff_eq];omega
    have f:Hid (R=aD acc):=by
     have:=o.out;rw[FU t p]at this;exact this.hash q
    clear o E q;go_wp2;exact bodyPost_ret (v:=aZ #[aG ao acc.length V,.bool false]) (by simp[results,results231,go_sem,H,I]) rfl (Ts f.out G y _ _)
   ·have au:((t[0].toNat:Int) != 35)=true:=by rw[bne_iff_ne];omega
    have B:=E.out p;by_cases J:t[0].toNat=34
    ·have aa:=Aac;go_wp2_with (go_at_call 256;refine(Tp t _ p J W).mono ?_;rintro e wr ⟨rfl,rfl⟩)
     refine(O4 t _ p J W).mono ?_;rintro e w1 ⟨⟨a,b,ok,rfl,ab⟩,j⟩;have av:=j.size;have z:=y.trans (j.mono Z);have K:=AL G j;have C:w1.cell? ⟨w.heap.size,0,aC⟩=aD (aG aC 0 0):=by rw[j.cell (by simp;omega)];exact H
     have D:w1.cell? ⟨w.heap.size,1,aC⟩=aD (.bool false):=by rw[j.cell (by simp;omega)];exact I
     have aw:w1.frozen? ⟨w.heap.size,0,aC⟩=false:=by rw[j.frozen (by simp;omega)];exact X
     have ax:w1.frozen? ⟨w.heap.size,1,aC⟩=false:=by rw[j.frozen (by simp;omega)];exact Y
     clear H I X Y y G j aa J;rcases ab with ⟨d,rfl⟩ | ⟨x,n,d,rfl,F,rfl⟩
     ·have f:Hid (R=aC):=by have h:=o.out;rw[FU t p]at h d;exact h.none B q d
      clear o E B d q;go_wp2;exact bodyPost_ret (v:=aZ #[aG aC 0 0,.bool true]) (by simp[results,results231,go_sem,C,D]) rfl (FV f.out z _ _)
     ·have ay:=IK _ _ _ d;have L:(t.extract n t.size).size<=1048576:=by simp;omega
      have l:=JF (t.extract n t.size) w1 L;rw[En]at l;have az:a.size=x.length:=by rw[F];rfl
      have ac:Hid (a=⟨x.toArray⟩):=F;clear F;have m:¬(Fh (t.data.toList.drop n)=true/\x.length<=200/\acc.length<8)->Hid (R=aC):=fun M=>by have h:=o.out;rw[FU t p]at h d M;exact h.no B q d M
      have A:(Fh (t.data.toList.drop n)=true/\x.length<=200/\acc.length<8)->Hid (Hc (acc++[x]) (t.data.toList.drop n) R):=fun N=>by have h:=o.out;have O:=FU t p;rw[O]at h d N;rw[O];exact h.word B q d N
      clear o E B d q;by_cases i:Fh (t.data.toList.drop n)=true
      ·rw[i]at l;by_cases P:x.length<=200
       ·have ad:(a.size:Int)<=200:=by omega
        by_cases Q:acc.length<8
        ·have ae:((acc.length:Int)==8)=false:=by rw[beq_eq_false_iff_ne];omega
         have af:=A ⟨i,P,Q⟩;clear m A i;go_wp2_with (first | (go_at_call 257;refine l.mono ?_;rintro e w1 ⟨rfl,rfl⟩) | (at_builtin;refine wpList_append_lies _ rfl _ _ 52 rfl (w.heap.size+1) 9 i0 (aA ⟨#[]⟩) 1 16 underlying52 al am an ap rfl (by decide) _ acc.length _ rfl (K.alloc _) ⟨w1.heap.size,0,aC⟩ 1 1 [aA a] rfl rfl (Zf w1 _ 9) ?c2 (by decide) ?c3 ?c4 ?c5 (w1.heap.size+1) (by simp) ?_))
         case c2=>intro u S;simp at S;subst S;rfl
         case c3=>unfold maxLen;omega
         case c4=>omega
         case c5=>simp;omega
         intro g ag w2 T ah a0 a1;have ai:Below (w.heap.size+1) (w.alloc (bj #[aG aC 0 0,.bool false] 124)) w2:=(z.alloc (by omega) _).grown ah (by simp;omega) (fun k aj=>(K.lt k aj).1);go_wp2_with (go_at_call 255;refine(Nz (t.extract n t.size) _).mono ?_;rintro e w2 ⟨rfl,rfl⟩)
         go_roundw;case rel =>
          refine⟨acc++[x],⟨(((t.data.toList.drop n).take (t.size-n)).dropWhile (fun c=>c==32)).toArray⟩,aD ⟨g,0,aC⟩,ag,by simp;omega,by rw[<-aE];exact KG _ L,rfl,by rw[aI];rfl,?_,ai,?_,by rw[<-aE];exact KH _⟩
          ·rw[KQ,aI];rw[ac.out]at T;exact T
          ·have h:=af.out.trim;rw[<-En]at h;rw[<-aE];exact h
         case measure =>
          have U:=Tr (t.extract n t.size);have ak:(t.extract n t.size).size<t.size:=by
           simp only[bp];omega
          rw[aE]at U;exact bI U ak
        ·have ae:((acc.length:Int)==8)=true:=by rw[beq_iff_eq];omega
         have f:=m (fun h=>Q h.2.2);clear m A i;go_wp2_with (go_at_call 257;refine l.mono ?_;rintro e w1 ⟨rfl,rfl⟩)
         exact bodyPost_ret (v:=aZ #[aG aC 0 0,.bool true]) (by simp[results,results231,go_sem,C,D]) rfl (FV f.out z _ _)
       ·have ad:¬(a.size:Int)<=200:=by omega
        have a2:(200:Int)<(a.size:Int):=by omega
        have f:=m (fun h=>P h.2.1);clear m A i;go_wp2_with (go_at_call 257;refine l.mono ?_;rintro e w1 ⟨rfl,rfl⟩)
        exact bodyPost_ret (v:=aZ #[aG aC 0 0,.bool true]) (by simp[results,results231,go_sem,C,D]) rfl (FV f.out z _ _)
      ·have f:=m (fun h=>i h.1);rw[bO]at i;rw[i]at l;clear m A i;go_wp2_with (go_at_call 257;refine l.mono ?_;rintro e w1 ⟨rfl,rfl⟩)
       exact bodyPost_ret (v:=aZ #[aG aC 0 0,.bool true]) (by simp[results,results231,go_sem,C,D]) rfl (FV f.out z _ _)
    ·have aa:=Aad;go_wp2_with (go_at_call 256;refine(Tq t _ p J W).mono ?_;rintro e wr ⟨rfl,rfl⟩)
     refine(Ql t _ p J W).mono ?_;rintro e w1 ⟨⟨a,b,ok,rfl,ab⟩,j⟩;have av:=j.size;have z:=y.trans (j.mono Z);have K:=AL G j;have C:w1.cell? ⟨w.heap.size,0,aC⟩=aD (aG aC 0 0):=by rw[j.cell (by simp;omega)];exact H
     have D:w1.cell? ⟨w.heap.size,1,aC⟩=aD (.bool false):=by rw[j.cell (by simp;omega)];exact I
     have aw:w1.frozen? ⟨w.heap.size,0,aC⟩=false:=by rw[j.frozen (by simp;omega)];exact X
     have ax:w1.frozen? ⟨w.heap.size,1,aC⟩=false:=by rw[j.frozen (by simp;omega)];exact Y
     clear H I X Y y G j aa J;rcases ab with ⟨d,rfl⟩ | ⟨x,n,d,rfl,F,rfl⟩
     ·have f:Hid (R=aC):=by have h:=o.out;rw[FU t p]at h d;exact h.none B q d
      clear o E B d q;go_wp2;exact bodyPost_ret (v:=aZ #[aG aC 0 0,.bool true]) (by simp[results,results231,go_sem,C,D]) rfl (FV f.out z _ _)
     ·have ay:=IK _ _ _ d;have L:(t.extract n t.size).size<=1048576:=by simp;omega
      have l:=JF (t.extract n t.size) w1 L;rw[En]at l;have az:a.size=x.length:=by rw[F];rfl
      have ac:Hid (a=⟨x.toArray⟩):=F;clear F;have m:¬(Fh (t.data.toList.drop n)=true/\x.length<=200/\acc.length<8)->Hid (R=aC):=fun M=>by have h:=o.out;rw[FU t p]at h d M;exact h.no B q d M
      have A:(Fh (t.data.toList.drop n)=true/\x.length<=200/\acc.length<8)->Hid (Hc (acc++[x]) (t.data.toList.drop n) R):=fun N=>by have h:=o.out;have O:=FU t p;rw[O]at h d N;rw[O];exact h.word B q d N
      clear o E B d q;by_cases i:Fh (t.data.toList.drop n)=true
      ·rw[i]at l;by_cases P:x.length<=200
       ·have ad:(a.size:Int)<=200:=by omega
        by_cases Q:acc.length<8
        ·have ae:((acc.length:Int)==8)=false:=by rw[beq_eq_false_iff_ne];omega
         have af:=A ⟨i,P,Q⟩;clear m A i;go_wp2_with (first | (go_at_call 257;refine l.mono ?_;rintro e w1 ⟨rfl,rfl⟩) | (at_builtin;refine wpList_append_lies _ rfl _ _ 52 rfl (w.heap.size+1) 9 i0 (aA ⟨#[]⟩) 1 16 underlying52 al am an ap rfl (by decide) _ acc.length _ rfl (K.alloc _) ⟨w1.heap.size,0,aC⟩ 1 1 [aA a] rfl rfl (Zf w1 _ 9) ?c2 (by decide) ?c3 ?c4 ?c5 (w1.heap.size+1) (by simp) ?_))
         case c2=>intro u S;simp at S;subst S;rfl
         case c3=>unfold maxLen;omega
         case c4=>omega
         case c5=>simp;omega
         intro g ag w2 T ah a0 a1;have ai:Below (w.heap.size+1) (w.alloc (bj #[aG aC 0 0,.bool false] 124)) w2:=(z.alloc (by omega) _).grown ah (by simp;omega) (fun k aj=>(K.lt k aj).1);go_wp2_with (go_at_call 255;refine(Nz (t.extract n t.size) _).mono ?_;rintro e w2 ⟨rfl,rfl⟩)
         go_roundw;case rel =>
          refine⟨acc++[x],⟨(((t.data.toList.drop n).take (t.size-n)).dropWhile (fun c=>c==32)).toArray⟩,aD ⟨g,0,aC⟩,ag,by simp;omega,by rw[<-aE];exact KG _ L,rfl,by rw[aI];rfl,?_,ai,?_,by rw[<-aE];exact KH _⟩
          ·rw[KQ,aI];rw[ac.out]at T;exact T
          ·have h:=af.out.trim;rw[<-En]at h;rw[<-aE];exact h
         case measure =>
          have U:=Tr (t.extract n t.size);have ak:(t.extract n t.size).size<t.size:=by
           simp only[bp];omega
          rw[aE]at U;exact bI U ak
        ·have ae:((acc.length:Int)==8)=true:=by rw[beq_iff_eq];omega
         have f:=m (fun h=>Q h.2.2);clear m A i;go_wp2_with (go_at_call 257;refine l.mono ?_;rintro e w1 ⟨rfl,rfl⟩)
         exact bodyPost_ret (v:=aZ #[aG aC 0 0,.bool true]) (by simp[results,results231,go_sem,C,D]) rfl (FV f.out z _ _)
       ·have ad:¬(a.size:Int)<=200:=by omega
        have a2:(200:Int)<(a.size:Int):=by omega
        have f:=m (fun h=>P h.2.1);clear m A i;go_wp2_with (go_at_call 257;refine l.mono ?_;rintro e w1 ⟨rfl,rfl⟩)
        exact bodyPost_ret (v:=aZ #[aG aC 0 0,.bool true]) (by simp[results,results231,go_sem,C,D]) rfl (FV f.out z _ _)
      ·have f:=m (fun h=>i h.1);rw[bO]at i;rw[i]at l;clear m A i;go_wp2_with (go_at_call 257;refine l.mono ?_;rintro e w1 ⟨rfl,rfl⟩)
       exact bodyPost_ret (v:=aZ #[aG aC 0 0,.bool true]) (by simp[results,results231,go_sem,C,D]) rfl (FV f.out z _ _)
  ·have a3:t=⟨#[]⟩:=by apply aV;exact be (by show t.size=0;omega)
   subst a3;have f:Hid (R=aD acc):=Hc.nil o.out;clear o E p;go_wp2;exact bodyPost_ret (v:=aZ #[aG ao acc.length V,.bool false]) (by simp[results,results231,go_sem,H,I]) rfl (Ts f.out G y _ _)
theorem Yj{l:List UInt8}(h:CW l=true):Ck l=l:=by simp[Ck,h]
theorem Aah{l:List UInt8}(h:CW l=false):Ck l=FZ l:=by simp[Ck,h]
theorem Q7(s:ByteArray)(w:World)(h:s.size<=1048576):Calls prog 181 #[aA s] w fun e w'=>e=aB (aA ⟨(Ck s.data.toList).toArray⟩)/\Below w.heap.size w w':=by
 have b:=Ny s w h;cases a:CW s.data.toList <;> rw[a]at b
 ·rw[Aah a];clear a;have i:=Lib.fresh_isBuilder 100 5 w;go_enter func181,ntmps181;go_wp2_with (go_at_call 226;refine b.mono ?_;rintro e w' ⟨rfl,rfl⟩)
  refine(Fe _ _ _ _ _ i (by simp) (by simp)).mono ?_;rintro e w1 ⟨rfl,h1,j⟩;have m:Below w'.heap.size w' w1:=((aO _ _).alloc (aH _) _).trans j;clear i j b;go_wp2_with fail
  go_loopw [4,12] (fun _ c wr=>∃k:Nat,k<=s.size/\c=.int .i64 k/\aL 100 5 w'.heap.size w'.heap.size (aF (34::(s.data.toList.take k).flatMap qb)) wr/\Below w'.heap.size w' wr) (fun _ c _=>s.size-(intOf c).toNat)
  case atStart=>exact⟨0,bn _,rfl,aK (by simpa [aF] using h1),m⟩
  case round =>
   obtain⟨k,t,rfl,l,g⟩:=hrel;have u:=g.size;have v:=Ze (s.data.toList.take k);have x:(s.data.toList.take k).length<=k:=List.length_take_le _ _;by_cases n:k<s.size
   ·have o:Hid ((s.data.toList.take (k+1)).flatMap qb=(s.data.toList.take k).flatMap qb++qb s[k]):=Xt s k n;go_wp2_with (go_at_call 228;refine(L8 _ _ _ s[k] _ l (by rw[a7,bg];omega) (by omega)).mono ?_;rintro e w2 ⟨rfl,d,f⟩)
    go_roundw;case rel =>
     refine⟨k+1,by omega,by go_num,?_,g.trans f⟩;rw[o.out,<-List.cons_append,bE];exact d
    case measure=>simp[intOf];omega
   ·have p:k=s.size:=by omega
    subst p;go_wp2_with fail
    refine(Fe _ _ _ _ _ l (by rw[a7,bg];omega) (by omega)).mono ?_;rintro e w2 ⟨rfl,d,f⟩;have y:=f.size;go_wp2_with fail
    have q:aL 100 5 w'.heap.size w'.heap.size (aF (FZ s.data.toList)) w2:=by
     rw[Jj s]at d;refine aK ?_;simpa [FZ,aF] using d
    refine(Oy _ _ _ _ q (by omega)).mono ?_;rintro e w3 ⟨rfl,r⟩;go_wp2;go_ret;exact⟨rfl,g.trans (f.trans r)⟩
 ·rw[Yj a];clear a;go_enter func181,ntmps181;go_wp2_with (first | (go_at_call 226;refine b.mono ?_;rintro e w' ⟨rfl,rfl⟩) | (go_at_call 227;refine(KF s _ h).mono ?_;rintro e w1 ⟨rfl,a⟩))
  go_ret;exact⟨rfl,a⟩
