import Derived.WalkKit
import Derived.Test.YtpdahhnjhggocaaGreatDoorProg
import Derived.WalkMore
import Derived.WalkSpells
import Derived.WalkLawsBesides
import Derived.LoopTactic
import Derived.Deep.RegionHeld3
import Derived.Deep.AppendLies
import Derived.Deep.QuietTactic
import Derived.BigQuiet
import Derived.WalkSmall
import Derived.Laws.OwnMore
import Derived.Laws.IdiomStrings
import Derived.Laws.BytesArg
import Derived.Laws.BitsLemmas
import Derived.Lib.Strings
import Derived.Lib.UnsafeStr
import Derived.Shelf.Strings.Builder1
import Derived.Shelf.LaysM
import Derived.Shelf.Strconv.Clone
import Derived.Laws.Rows
import Derived.Laws.Bits64
import Derived.OpenShut
open Go.Proofs.Tryz
open Go.Lib renaming byteCells->ai,IsBuilder->aq,byteCells_length->ar,byteCells_append->au,cell_of_heap->aI,extract_data->bv
open Option renaming none->aj,some->al,map_map->bo
open Go.Ending renaming returned->ak,returned->aw
open ByteArray renaming size_append->am,ext->bf
open Nat renaming le_refl->an,zero_le->az,add_mul->aN,mul_le_mul->aS,mod_lt->aT,mod_eq_of_lt->bt,div_le_self->bz,mul_assoc->bM,mul_two->bS
open Or renaming inr->ap,inl->aA
open Go.Value renaming slice->av,pointer->aO,string->bD
open List renaming pairwise_append->ax,pairwise_cons->aB,length_cons->aF,getElem?_eq_getElem->aW,take_of_length_le->a2,mem_singleton->be,getElem?_map->bk,mem_append->bu,mem_cons->bH
open Go.World renaming news_of_block->ay,ownsRow_lit->bd
open BitVec renaming ofInt->aC,ofInt_natCast->a6,toNat_ofNat->bc
open Go renaming heap_alloc_new->aD,run_convert_bytes_back->bh,wpList_append_lies->bB,maxLen->bC
open Go.Proofs.Tryz renaming zeroValue22->aE,zeroValue9->aK,zeroValue5->aL,zeroValue0->aM,sizeOf22->aV,sizeOf9->aX,sizeOf5->aY,sizeOf0->aZ,isAgg22->a1,isAgg9->a8,isAgg5->ba,isAgg0->bb,zeroValue196->bi,zeroValue100->bj,zeroValue98->bm,prog->bn,zeroValue4->bq,zeroValue3->br,sizeOf196->bw,sizeOf100->bx,sizeOf98->bE,isAgg196->bF,isAgg100->bG,sizeOf4->bJ,sizeOf3->bK,isAgg98->bL,isAgg4->bQ,isAgg3->bR
open Bool renaming noConfusion->aG
open Go.RowKit renaming wrap64->aH
open Int renaming natCast_emod->aJ,tmod_eq_emod_of_nonneg->aU,emod_lt_of_pos->bl,toNat_natCast->bp,emod_nonneg->bA
open Go.World.ownsRow renaming kept->aP,lt->bP
open Go.RowKit.Below renaming refl->aQ
open Array renaming getElem?_eq_some_iff->aR
open UInt8 renaming ofNat->a7
open Go.Obj renaming cells->bg
open Go.Proofs.LaysM renaming n316->bI
open Go.Proofs.Lays renaming n169->bN,n167->bO
namespace Go.Proofs.YtpdahhnjhggocaaGreatDoor
open Go.RowKit
set_option maxHeartbeats 16000000
set_option maxRecDepth 100000
def BO(c:UInt8):Bool:=decide (32<=c.toNat/\c.toNat<=126/\c.toNat≠34/\c.toNat≠92)
def AY(c:UInt8):Bool:=decide (33<=c.toNat/\c.toNat<=126/\c.toNat≠34/\c.toNat≠35/\c.toNat≠92)
theorem Uc{c:UInt8}(h:AY c=true):33<=c.toNat/\c.toNat<=126/\c.toNat≠34/\c.toNat≠35/\c.toNat≠92:=by simpa [AY] using h
theorem DH{c:UInt8}(h:BO c=true):32<=c.toNat/\c.toNat<=126/\c.toNat≠34/\c.toNat≠92:=by simpa [BO] using h
theorem LK{c:UInt8}(h:33<=c.toNat/\c.toNat<=126/\c.toNat≠34/\c.toNat≠35/\c.toNat≠92):AY c=true:=by simpa [AY] using h
theorem GV{c:UInt8}(h:¬(33<=c.toNat/\c.toNat<=126/\c.toNat≠34/\c.toNat≠35/\c.toNat≠92)):AY c=false:=by simp only[AY,decide_eq_false_iff_not];exact h
theorem EK{c:UInt8}(h:32<=c.toNat/\c.toNat<=126/\c.toNat≠34/\c.toNat≠92):BO c=true:=by simpa [BO] using h
theorem JO{c:UInt8}(h:¬(32<=c.toNat/\c.toNat<=126/\c.toNat≠34/\c.toNat≠92)):BO c=false:=by simp only[BO,decide_eq_false_iff_not];exact h
def Af3:List UInt8:=[48,49,50,51,52,53,54,55,56,57,97,98,99,100,101,102]
def GM(n:Nat):UInt8:=Af3.getD n 0
def qb(c:UInt8):List UInt8:=if BO c=true then [c] else [92,GM (c.toNat/16),GM (c.toNat%16)]
def GW(l:List UInt8):List UInt8:=34::(l.flatMap qb)++[34]
def CP(l:List UInt8):Bool:=!l.isEmpty&&l.all AY
def CZ(l:List UInt8):List UInt8:=if CP l=true then l else GW l
theorem Yh(c:UInt8):(qb c).length<=3:=by unfold qb;split <;> simp
theorem RT(l:List UInt8):(l.flatMap qb).length<=3*l.length:=by
 induction l with
 | nil=>simp
 | cons c r a=>have:=Yh c;simp only[List.flatMap_cons,List.length_append,aF];omega
theorem Hu(s:ByteArray)(k:Nat)(h:k<s.size):s.data.toList.take (k+1)=s.data.toList.take k++[s[k]]:=by
 rw[List.take_succ_eq_append_getElem (by simpa using h)];rfl
theorem JP(s:ByteArray)(k:Nat)(h:k<s.size):(s.data.toList.take (k+1)).flatMap qb=(s.data.toList.take k).flatMap qb++qb s[k]:=by
 rw[Hu s k h];simp
theorem LL(s:ByteArray)(k:Nat)(h:k<s.size):(s.data.toList.take (k+1)).all AY=((s.data.toList.take k).all AY&&AY s[k]):=by
 rw[Hu s k h];simp
theorem FI(s:ByteArray):s.data.toList.take s.size=s.data.toList:=a2 (by simp)
variable {acc:List (List UInt8)}{n:Nat}
def hexV(c:UInt8):Nat:=if 48<=c.toNat/\c.toNat<=57 then c.toNat-48 else if 97<=c.toNat/\c.toNat<=102 then c.toNat-87 else 16
def Ll:List UInt8->Option (List UInt8 × Nat)
 | []=>aj
 | c::r =>
  if c.toNat=34 then al ([],1)
  else if c.toNat=92 then
   match r with
   | a::b::r'=>if hexV a<16/\hexV b<16 then (Ll r').map (fun p=>(a7 (16*hexV a+hexV b)::p.1,p.2+3)) else aj
   | _=>aj
  else if 32<=c.toNat/\c.toNat<=126 then (Ll r).map (fun p=>(c::p.1,p.2+1)) else aj
def LN:List UInt8->Option (List UInt8 × Nat)
 | a::b::r'=>if hexV a<16/\hexV b<16 then (Ll r').map (fun p=>(a7 (16*hexV a+hexV b)::p.1,p.2+3)) else aj
 | _=>aj
theorem ET(c:UInt8)(r:List UInt8):Ll (c::r)=if c.toNat=34 then al ([],1) else if c.toNat=92 then LN r else if 32<=c.toNat/\c.toNat<=126 then (Ll r).map (fun p=>(c::p.1,p.2+1)) else aj:=by
 match r with
 | []=>simp[Ll,LN]
 | [_]=>simp[Ll,LN]
 | _::_::_=>rw[Ll,LN]
def Uq(L:List UInt8)(i:Nat)(acc:List UInt8):Option (List UInt8 × Nat):=(Ll (L.drop i)).map (fun p=>(acc++p.1,i+p.2))
theorem Aar(L:List UInt8):Uq L 0 []=Ll L:=by
 unfold Uq;simp
theorem Bj(s:ByteArray)(i:Nat)(h:i<s.size):s.data.toList.drop i=s[i]::s.data.toList.drop (i+1) :=
 List.drop_eq_getElem_cons (by simpa using h)
theorem Yi(s:ByteArray)(i:Nat)(acc:List UInt8)(h:¬i<s.size):Uq s.data.toList i acc=aj:=by
 unfold Uq;rw[List.drop_of_length_le (by simp;omega)];rfl
theorem VI(s:ByteArray)(i:Nat)(acc:List UInt8)(h:i<s.size)(a:s[i].toNat=34):Uq s.data.toList i acc=al (acc,i+1):=by
 unfold Uq;rw[Bj s i h,ET];simp[a]
theorem Yj(s:ByteArray)(i:Nat)(acc:List UInt8)(h:i<s.size)(a:BO s[i]=true):Uq s.data.toList i acc=Uq s.data.toList (i+1) (acc++[s[i]]):=by
 have h1:=DH a;unfold Uq;rw[Bj s i h,ET,if_neg (by omega),if_neg (by omega),if_pos (by omega)];rw[bo];congr 1;funext p;simp;omega
theorem Aas(s:ByteArray)(i:Nat)(acc:List UInt8)(h:i<s.size)(a:BO s[i]=false)(b:s[i].toNat≠34)(c:s[i].toNat≠92):Uq s.data.toList i acc=aj:=by
 unfold Uq;rw[Bj s i h,ET,if_neg b,if_neg c,if_neg (fun d=>by rw[EK (by omega)]at a;exact aG a)];rfl
theorem Yk(s:ByteArray)(i:Nat)(acc:List UInt8)(h:i<s.size)(a:s[i].toNat=92)(c:¬i+2<s.size):Uq s.data.toList i acc=aj:=by
 unfold Uq;rw[Bj s i h,ET,if_neg (by omega),if_pos a];have b:(s.data.toList.drop (i+1)).length<=1:=by simp;omega
 match hd:s.data.toList.drop (i+1),b with
 | [],_=>rfl
 | [_],_=>rfl
theorem Ade(s:ByteArray)(i:Nat)(acc:List UInt8)(b:i+2<s.size)(a:s[i].toNat=92):
  Uq s.data.toList i acc=if hexV s[i+1]<16/\hexV s[i+2]<16 then Uq s.data.toList (i+3) (acc++[a7 (16*hexV s[i+1]+hexV s[i+2])]) else aj:=by
 unfold Uq;rw[Bj s i (by omega),ET,if_neg (by omega),if_pos a,Bj s (i+1) (by omega),Bj s (i+1+1) (by omega),LN];split
 ·rw[bo];congr 1;funext p;simp;omega
 ·rfl
theorem VJ(k:Nat):∀(l:List UInt8) (x:List UInt8) (n:Nat),l.length<=k->Ll l=al (x,n)->1<=n/\n<=l.length/\x.length<n:=by
 induction k with
 | zero=>intro l x n d h;match l,d with | [],_=>simp[Ll]at h
 | succ k f =>
  intro l x n d h
  match l,d with
  | [],_=>simp[Ll]at h
  | c::r,d =>
   rw[ET]at h;split at h
   ·simp at h;obtain⟨rfl,rfl⟩:=h;simp
   ·split at h
    ·match r,d,h with
     | a::b::r',d,h =>
      rw[LN]at h;split at h
      ·cases e:Ll r' with
       | none=>simp[e]at h
       | some p =>
        obtain⟨y,m⟩:=p;simp[e]at h;obtain⟨rfl,rfl⟩:=h;have:=f r' y m (by simp at d;omega) e;simp;omega
      ·simp at h
     | [_],_,h=>simp[LN]at h
     | [],_,h=>simp[LN]at h
    ·split at h
     ·cases e:Ll r with
      | none=>simp[e]at h
      | some p =>
       obtain⟨y,m⟩:=p;simp[e]at h;obtain⟨rfl,rfl⟩:=h;have:=f r y m (by simp at d;omega) e;simp;omega
     ·simp at h
def CW:List UInt8->Option (List UInt8 × Nat)
 | []=>aj
 | c::r=>if c.toNat=34 then (Ll r).map (fun p=>(p.1,p.2+1)) else if AY c=false then aj else al ((c::r).takeWhile AY,((c::r).takeWhile AY).length)
theorem ID(l:List UInt8)(x:List UInt8)(n:Nat)(h:CW l=al (x,n)):1<=n/\n<=l.length:=by
 match l,h with
 | c::r,h =>
  rw[CW]at h;split at h
  ·cases a:Ll r with
   | none=>simp[a]at h
   | some p =>
    obtain⟨y,m⟩:=p;simp[a]at h;have:=VJ r.length r y m (an _) a;simp;omega
  ·split at h
   ·simp at h
   ·rename_i b;simp at h;obtain⟨rfl,rfl⟩:=h;have d:=(List.takeWhile_prefix AY (l:=c::r)).length_le;refine⟨?_,d⟩;rw[List.takeWhile_cons,if_pos (by simpa using b)];simp
def Dd:List UInt8->Bool
 | []=>true
 | c::_=>decide (c.toNat=32\/c.toNat=35)
def F2:Nat->List (List UInt8)->List UInt8->Option (List (List UInt8))
 | _,acc,[]=>al acc
 | 0,_,_::_=>aj
 | f+1,acc,c::r =>
  if c.toNat=32 then F2 f acc r
  else if c.toNat=35 then al acc
  else match CW (c::r) with
   | none=>aj
   | some (x,n)=>if Dd ((c::r).drop n)=true/\x.length<=200/\acc.length<8 then F2 f (acc++[x]) ((c::r).drop n) else aj
def cutL(l:List UInt8):Option (List (List UInt8)):=F2 l.length [] l
def Ih(acc:List (List UInt8))(l:List UInt8)(R:Option (List (List UInt8))):Prop:=∃f,l.length<=f/\F2 f acc l=R
theorem Ih.start(l:List UInt8):Ih [] l (cutL l):=⟨l.length,an _,rfl⟩
theorem Ih.nil{R:Option (List (List UInt8))}(h:Ih acc [] R):R=al acc:=by
 obtain⟨f,_,rfl⟩:=h;cases f <;> rfl
theorem Ih.space{c:UInt8}{r:List UInt8}{R:Option (List (List UInt8))}(h:Ih acc (c::r) R)(b:c.toNat=32):Ih acc r R:=by
 obtain⟨f,a,rfl⟩:=h
 match f,a with
 | f+1,a=>exact⟨f,by simp at a;omega,by rw[F2,if_pos b]⟩
theorem Ih.hash{c:UInt8}{r:List UInt8}{R:Option (List (List UInt8))}(h:Ih acc (c::r) R)(b:c.toNat=35):R=al acc:=by
 obtain⟨f,a,rfl⟩:=h
 match f,a with
 | f+1,a=>rw[F2,if_neg (by omega),if_pos b]
theorem Ih.none{c:UInt8}{r:List UInt8}{R:Option (List (List UInt8))}(h:Ih acc (c::r) R)(h1:c.toNat≠32)(b:c.toNat≠35)(d:CW (c::r)=.none):R=.none:=by
 obtain⟨f,a,rfl⟩:=h
 match f,a with
 | f+1,a=>rw[F2,if_neg h1,if_neg b,d]
theorem Ih.no{c:UInt8}{r:List UInt8}{R:Option (List (List UInt8))}{x:List UInt8}(h:Ih acc (c::r) R)(h1:c.toNat≠32)(b:c.toNat≠35)(d:CW (c::r)=al (x,n))(e:¬(Dd ((c::r).drop n)=true/\x.length<=200/\acc.length<8)):R=.none:=by
 obtain⟨f,a,rfl⟩:=h
 match f,a with
 | f+1,a=>rw[F2,if_neg h1,if_neg b,d];simp only;rw[if_neg e]
theorem Ih.word{c:UInt8}{r:List UInt8}{R:Option (List (List UInt8))}{x:List UInt8}(h:Ih acc (c::r) R)(h1:c.toNat≠32)(d:c.toNat≠35)(b:CW (c::r)=al (x,n))(e:Dd ((c::r).drop n)=true/\x.length<=200/\acc.length<8):Ih (acc++[x]) ((c::r).drop n) R:=by
 obtain⟨f,a,rfl⟩:=h;have g:=ID _ _ _ b
 match f,a with
 | f+1,a=>exact⟨f,by simp at a⊢;omega,by rw[F2,if_neg h1,if_neg d,b];simp only;rw[if_pos e]⟩
theorem Ih.trim{acc:List (List UInt8)}{R:Option (List (List UInt8))}:∀ {l:List UInt8},Ih acc l R->Ih acc (l.dropWhile (fun c=>c==32)) R
 | [],h=>h
 | c::r,h=>by
  rw[List.dropWhile_cons];split
  ·rename_i a;have:c.toNat=32:=by simp at a;rw[a];rfl
   exact Ih.trim (h.space this)
  ·exact h
def strs(ws:List (List UInt8)):List Value:=ws.map fun l=>bD ⟨l.toArray⟩
theorem DI(a b:List (List UInt8)):strs (a++b)=strs a++strs b:=by simp[strs]
theorem CE(a:List (List UInt8)):(strs a).length=a.length:=by simp[strs]
variable {w w':World}{base:Nat}{e:TypeId}{v:Value}{xs:List Value}
theorem Co{k:IntKind}{a b:Int}(h:a=b):aw (.int k a)=ak (.int k b):=by rw[h]
theorem Fo{a b:Value}(h:a=b):aw a=ak b:=by rw[h]
theorem As{a b:Bool}(h:a=b):aw (.bool a)=ak (.bool b):=by rw[h]
theorem VK{a b:List UInt8}(h:a=b):aw (.string ⟨a.toArray⟩)=ak (.string ⟨b.toArray⟩):=by rw[h]
theorem DC(t:ByteArray)(k:Nat):(t.extract k t.size).data.toList=t.data.toList.drop k:=by
 rw[bv];exact a2 (by simp)
theorem Ud(t:ByteArray)(k:Nat):t.extract 0 k=⟨(t.data.toList.take k).toArray⟩:=by
 apply bf;apply Array.toList_inj.1;rw[bv];simp
theorem Ac3:(bn.info? 5).map (fun i=>(i.zero,i.size,i.bytes))=al (al (.int .u8 0),1,1):=by kernel_rfl
theorem Kx(w:World)(x:Value)(T:TypeId):∀j u,[x][j]?=al u->(w.alloc (bg #[x] T)).cell? ((⟨w.heap.size,0,aj⟩:Addr).add j)=al u :=
 ay (cs:=#[x]) (t:=T) (fr:=(0,0)) (aD w _)
theorem FJ(w1:World)(v:Value)(B:Nat)(l:List UInt8)(n:Nat)(h:w1.ownsRow B 5 1 v n (ai l)):
  (convert 22 9 v).run prog w1=.ok (.string ⟨l.toArray⟩) w1:=by
 have a:l.length=n:=by have:=h.1;simpa [ar] using this
 subst a;rcases h.2 with ⟨rfl,b⟩|⟨g,c,e,rfl,f⟩
 ·have:l=[]:=List.length_eq_zero_iff.1 b;subst this;exact run_convert_bytes_nil w1 22 5 underlying22 underlying5 0 0 9 underlying9
 ·refine bh w1 22 9 5 ⟨g,0,aj⟩ c l underlying22 underlying5 underlying9 fun j d=>?_
  refine h.cells rfl j _ ?_;simp only[ai,bk,aW d];rfl
theorem Ws{size:Nat}(h:w.ownsRow base e size v n xs)(k:Nat):(w.drewN k).ownsRow base e size v n xs:=by
 induction k with
 | zero=>exact h
 | succ k a=>exact a.drew
theorem Bo{size:Nat}(h:w.ownsRow base e size v n xs)(p:Addr)(k:p.block<base)(u:Value):(w.setCell p u).ownsRow base e size v n xs:=by
 refine⟨h.1,?_⟩;rcases h.2 with a|⟨g,b,c,d,f,i,j⟩
 ·exact aA a
 ·exact ap ⟨g,b,c,d,f,by rw[Below.heap_setCell _ _ _ _ (by omega)];exact i,j⟩
theorem C3{a:Nat}{size:Nat}(h:w.ownsRow base e size v n xs)(j:a<=base):w.ownsRow a e size v n xs:=by
 refine⟨h.1,?_⟩;rcases h.2 with b|⟨g,c,d,f,k,i⟩
 ·exact aA b
 ·exact ap ⟨g,c,d,f,by omega,i⟩
theorem AI{size:Nat}(h:w.ownsRow base e size v n xs)(b:Below w.heap.size w w'):w'.ownsRow base e size v n xs:=by
 refine⟨h.1,?_⟩;rcases h.2 with c|⟨g,d,f,i,j,a,k⟩
 ·exact aA c
 ·refine ap ⟨g,d,f,i,j,?_,k⟩;rw[b.block g ?_]
  ·exact a
  ·exact(aR.1 a).1
theorem Jc:(bn.info? 9).map (fun i=>(i.zero,i.size,i.bytes))=al (al (.string ⟨#[]⟩),1,16):=by kernel_rfl
theorem Wt(a b:List UInt8):(⟨a.toArray⟩++⟨b.toArray⟩:ByteArray)=⟨(a++b).toArray⟩:=by
 apply bf;simp
theorem Jd(w:World)(c:UInt8):(convert 22 9 (av (al ⟨w.heap.size,0,aj⟩) 1 1)).run prog (w.alloc (bg #[.int .u8 (c.toNat:Int)] 5))=.ok (.string ⟨#[c]⟩) (w.alloc (bg #[.int .u8 (c.toNat:Int)] 5)) :=
 FJ _ _ w.heap.size [c] 1 (bd w #[.int .u8 (c.toNat:Int)] 1 (an _) (by decide) rfl)
theorem Ar(h:Below w.heap.size w w')(row:Option Nat):w.grownBy w' row:=⟨h.os,h.tape,h.output,h.size,fun i a _=>h.block i a⟩
theorem Ah{a b c:World}{row:Option Nat}(h:a.grownBy b row)(k:b.grownBy c row):a.grownBy c row :=
 ⟨k.os.trans h.os,k.tape.trans h.tape,k.output.trans h.output,Nat.le_trans h.size k.size,fun i d e=>(k.block i (Nat.lt_of_lt_of_le d h.size) e).trans (h.block i d e)⟩
theorem Aat(ws:List (List UInt8))(j:Nat)(h:j<ws.length):(strs ws)[j]?=al (.string ⟨ws[j].toArray⟩):=by
 simp[strs,h]
theorem Al{size:Nat}(h:w.ownsRow base e size v n xs):∃ao a,v=av ao n a/\(n=0\/∃g,ao=al ⟨g,0,aj⟩):=by
 rcases h.2 with ⟨rfl,rfl⟩|⟨g,a,b,rfl,_⟩
 ·exact⟨aj,0,rfl,aA rfl⟩
 ·exact⟨_,_,rfl,ap ⟨g,rfl⟩⟩
variable {B B' g:Nat}
structure MRow where
 v:Value
 e:TypeId
 size:Nat
 n:Nat
 xs:List Value
def MRow.isAt(r:MRow)(B:Nat)(w:World):Prop:=w.ownsRow B r.e r.size r.v r.n r.xs
def Ay(B:Nat)(w:World)(L:List MRow):Prop:=(∀r∈L,r.isAt B w)/\L.Pairwise (fun r s=>r.v.ownBlock=aj\/r.v.ownBlock≠s.v.ownBlock)
theorem Ay.nil(B:Nat)(w:World):Ay B w []:=⟨by simp,by simp⟩
theorem Ay.kept{L:List MRow}(h:Ay B w L)(a:w.grownBy w' aj):Ay B w' L :=
 ⟨fun r b=>aP (h.1 r b) a (by cases c:r.v.ownBlock <;> simp),h.2⟩
theorem Ay.V{L:List MRow}(h:Ay B w L)(a:Below w.heap.size w w'):Ay B w' L:=h.kept (Ar a aj)
theorem Ay.mono{L:List MRow}(h:Ay B w L)(a:B'<=B):Ay B' w L:=⟨fun r b=>C3 (h.1 r b) a,h.2⟩
theorem Ay.lt{L:List MRow}(h:Ay B w L){r:MRow}(a:r∈L)(b:r.v.ownBlock=al g):B<=g/\g<w.heap.size:=bP (h.1 r a) g b
theorem Ay.join{L N:List MRow}(h:Ay B w L)(a:Ay w.heap.size w' N)(c:Below w.heap.size w w')(d:B<=w.heap.size):Ay B w' (N++L):=by
 have f:=h.V c;refine⟨fun r b=>?_,ax.2 ⟨a.2,h.2,fun r b s i=>?_⟩⟩
 ·rcases bu.1 b with h1|h1
  ·exact C3 (a.1 r h1) d
  ·exact f.1 r h1
 ·cases j:r.v.ownBlock with
  | none=>exact aA rfl
  | some g =>
   refine ap fun e=>?_
   have h1:=(a.lt b j).1;have k:=(h.lt i e.symm).2;omega
theorem Ay.cons{L:List MRow}{r:MRow}(h:Ay B w L)(a:r.isAt w.heap.size w')(b:Below w.heap.size w w')(c:B<=w.heap.size):Ay B w' (r::L) :=
 h.join (N:=[r]) ⟨fun s d=>by rw[be.1 d];exact a,by simp⟩ b c
theorem Ay.head{L:List MRow}{r:MRow}(h:Ay B w (r::L)):w.ownsRow B r.e r.size r.v r.n r.xs:=h.1 r (by simp)
theorem Ay.tail{L:List MRow}{r:MRow}(h:Ay B w (r::L)):Ay B w L:=⟨fun s a=>h.1 s (by simp[a]),(aB.1 h.2).2⟩
theorem Ay.left{L N:List MRow}(h:Ay B w (N++L)):Ay B w N:=⟨fun s a=>h.1 s (by simp[a]),(ax.1 h.2).1⟩
theorem Ay.right{L N:List MRow}(h:Ay B w (N++L)):Ay B w L:=⟨fun s a=>h.1 s (by simp[a]),(ax.1 h.2).2.1⟩
theorem Ay.turn{L:List MRow}{r r':MRow}(h:Ay B w (r::L))(d:r'.v=r.v)(f:r'.isAt B w')(i:w.grownBy w' r.v.ownBlock):Ay B w' (r'::L):=by
 have a:=aB.1 h.2;refine⟨fun s b=>?_,aB.2 ⟨fun s b=>by rw[d];exact a.1 s b,a.2⟩⟩;rcases bH.1 b with rfl|h1
 ·exact f
 ·refine aP (h.1 s (by simp[h1])) i ?_;rcases a.1 s h1 with c|c
  ·cases j:s.v.ownBlock with
   | none=>exact aA rfl
   | some g=>right;rw[c];simp
  ·exact ap (fun e=>c e.symm)
theorem Ay.perm{L N:List MRow}(h:Ay B w L)(a:L.Perm N):Ay B w N:=by
 refine⟨fun r c=>h.1 r (a.mem_iff.2 c),?_⟩;refine(a.pairwise_iff ?_).1 h.2;intro r s d;rcases d with h1|h1
 ·by_cases b:s.v.ownBlock=aj
  ·exact aA b
  ·exact ap (by rw[h1];exact b)
 ·exact ap (Ne.symm h1)
def Cw(l:List Int):List Value:=l.map (Value.int .i64)
theorem DO(l:List Int):(Cw l).length=l.length:=by simp[Cw]
variable {ao:Option Addr}{m:Nat}{ws:List (List UInt8)}
theorem Lm(g k:Nat):(⟨g,0,aj⟩:Addr).add k=⟨g,k,aj⟩:=by
 unfold Addr.add;split <;> simp_all
def Am(w:World)(v:Value)(n size:Nat)(xs:List Value):Prop:=xs.length=n*size/\∃ao a,v=av ao n a/\(n<=a/\a<=bC)/\(n=0\/∃b off,ao=al ⟨b,off,aj⟩/\∀j u,xs[j]?=al u->w.cell? ⟨b,off+j,aj⟩=al u)
theorem Am.V{size:Nat}(h:Am w v n size xs)(d:Below w.heap.size w w'):Am w' v n size xs:=by
 obtain⟨e,ao,f,g,i,a⟩:=h;refine⟨e,ao,f,g,i,?_⟩;rcases a with k|⟨b,off,l,a⟩
 ·exact .inl k
 ·exact .inr ⟨b,off,l,fun j u c=>(d.cell (World.block_lt_of_cell? w _ (a j u c))).trans (a j u c)⟩
theorem AF{size:Nat}(h:w.ownsRow B e size v n xs):Am w v n size xs:=by
 refine⟨h.1,?_⟩;have a:=h.2;rcases a with ⟨rfl,rfl⟩|⟨g,b,i,rfl,_,_,c,d,_⟩
 ·exact⟨aj,0,rfl,⟨an _,az _⟩,.inl rfl⟩
 ·refine⟨al ⟨g,0,aj⟩,b,rfl,⟨c,d⟩,.inr ⟨g,0,rfl,fun j u f=>?_⟩⟩;have:=h.cells (g:=g) rfl j u f;rw[Lm]at this;rw[Nat.zero_add];exact this
theorem Am.ad{size:Nat}(h:Am w v n size xs):∃ao a,v=av ao n a:=by
 obtain⟨_,ao,a,b,_⟩:=h;exact⟨ao,a,b⟩
theorem Am.at{cap size:Nat}(h:Am w (av ao m cap) n size xs)(d:0<n):∃b off,ao=al ⟨b,off,aj⟩/\∀j u,xs[j]?=al u->w.cell? ⟨b,off+j,aj⟩=al u:=by
 obtain⟨_,e,f,a,_,c⟩:=h;cases a
 rcases c with h1|h1
 ·omega
 ·exact h1
theorem Am.cap{cap size:Nat}(h:Am w (av ao m cap) n size xs):n<=cap/\cap<=bC:=by
 obtain⟨_,c,d,a,b,_⟩:=h;cases a
 exact b
theorem Am.take{cap size:Nat}(h:Am w (av ao n cap) n size xs)(k:Nat)(d:k<=n):Am w (av ao k cap) k size (xs.take (k*size)):=by
 obtain⟨e,l,m,f,g,c⟩:=h;cases f
 refine⟨?_,ao,cap,rfl,⟨by omega,g.2⟩,?_⟩
 ·rw[List.length_take,e];have:k*size<=n*size:=Nat.mul_le_mul_right _ d;omega
 ·rcases c with o|⟨b,off,i,c⟩
  ·exact .inl (by omega)
  ·refine .inr ⟨b,off,i,fun j u a=>c j u ?_⟩;rw[List.getElem?_take]at a;split at a
   ·exact a
   ·cases a
theorem Am.word{cap:Nat}(h:Am w (av ao m cap) n 1 (strs ws))(j:Nat)(a:j<ws.length):∃b off,ao=al ⟨b,off,aj⟩/\w.cell? ⟨b,off+j,aj⟩=al (.string ⟨ws[j].toArray⟩):=by
 have c:0<n:=by have:=h.1;rw[CE]at this;omega
 obtain⟨b,off,d,e⟩:=h.at c;exact⟨b,off,d,e j _ (Aat ws j a)⟩
theorem Md:∀(f:Nat) (acc:List (List UInt8)) (l:List UInt8),(∀w∈acc,w.length<=200)->∀w∈(F2 f acc l).getD [],w.length<=200
 | 0,acc,[],h=>by simpa [F2] using h
 | 0,acc,_::_,h=>by simp[F2]
 | f+1,acc,[],h=>by simpa [F2] using h
 | f+1,acc,c::r,h=>by
  rw[F2];split
  ·exact Md f acc r h
  ·split
   ·simpa using h
   ·split
    ·simp
    ·rename_i x n _;split
     ·rename_i a;refine Md f _ _ ?_;intro w b;rcases bu.1 b with h1|h1
      ·exact h w h1
      ·rw[be.1 h1];exact a.2.1
     ·simp
theorem Sg(l:List UInt8):∀w∈(cutL l).getD [],w.length<=200:=Md _ _ _ (by simp)
section
open Go.Shelf
def ren:Go.Shelf.Ren:=⟨fun|167=>102|240=>163|276=>218|169=>71|316=>248|n=>n,fun|0=>0|3=>3|4=>4|5=>5|9=>9|20=>20|37=>22|70=>98|72=>100|75=>106|80=>104|127=>196|164=>200|n=>n,fun|n=>n⟩
theorem Abc:bO prog ren:={
 mixed:=by kernel_rfl
 f167:=Tryz.func102.trans (congrArg al (by kernel_rfl))
 f240:=Tryz.func163.trans (congrArg al (by kernel_rfl))
 f276:=Tryz.func218.trans (congrArg al (by kernel_rfl))
 t0:=underlying0
 a0:=bb
 z0:=aZ
 v0:=aM
 t4:=underlying4
 a4:=bQ
 z4:=bJ
 v4:=bq
 t5:=underlying5
 a5:=ba
 z5:=aY
 v5:=aL
 t9:=underlying9
 a9:=a8
 z9:=aX
 v9:=aK
 t20:=underlying20
 a20:=Tryz.isAgg20
 z20:=Tryz.sizeOf20
 v20:=Tryz.zeroValue20
 t37:=underlying22
 a37:=a1
 z37:=aV
 v37:=aE
 t70:=underlying98
 a70:=bL
 z70:=bE
 v70:=bm
 t72:=underlying100
 a72:=bG
 z72:=bx
 v72:=bj
 t75:=underlying106
 a75:=Tryz.isAgg106
 z75:=Tryz.sizeOf106
 v75:=Tryz.zeroValue106
 t164:=underlying200
 a164:=Tryz.isAgg200
 z164:=Tryz.sizeOf200
 v164:=Tryz.zeroValue200 }
theorem Abd:bN prog ren:={
 mixed:=by kernel_rfl
 f169:=Tryz.func71.trans (congrArg al (by kernel_rfl))
 t0:=underlying0
 a0:=bb
 z0:=aZ
 v0:=aM
 t3:=underlying3
 a3:=bR
 z3:=bK
 v3:=br
 t9:=underlying9
 a9:=a8
 z9:=aX
 v9:=aK
 t37:=underlying22
 a37:=a1
 z37:=aV
 v37:=aE
 t70:=underlying98
 a70:=bL
 z70:=bE
 v70:=bm
 t72:=underlying100
 a72:=bG
 z72:=bx
 v72:=bj
 t127:=underlying196
 a127:=bF
 z127:=bw
 v127:=bi }
theorem Ac7:Builder.Extra prog ren:={
 sizeBuilder:=by kernel_rfl
 liesBuilder:=by kernel_rfl
 t5:=underlying5
 a5:=ba
 z5:=aY
 v5:=aL
 infoByte:=by kernel_rfl
 cellsByte:=by kernel_rfl
 sizeByte:=by kernel_rfl
 neB5:=by decide }
theorem YF:bI prog ren:={
 mixed:=by kernel_rfl
 f316:=Tryz.func248.trans (congrArg al (by kernel_rfl))
 t0:=underlying0
 a0:=bb
 z0:=aZ
 v0:=aM
 t3:=underlying3
 a3:=bR
 z3:=bK
 v3:=br
 t4:=underlying4
 a4:=bQ
 z4:=bJ
 v4:=bq
 t9:=underlying9
 a9:=a8
 z9:=aX
 v9:=aK
 t37:=underlying22
 a37:=a1
 z37:=aV
 v37:=aE
 t127:=underlying196
 a127:=bF
 z127:=bw
 v127:=bi
 t5:=underlying5
 a5:=ba
 z5:=aY
 v5:=aL
 i0:=by kernel_rfl
 i3:=by kernel_rfl
 i4:=by kernel_rfl
 i5:=by kernel_rfl
 i9:=by kernel_rfl
 i37:=by kernel_rfl
 i127:=by kernel_rfl }
open Go.RowKit in
theorem EM(B b:Nat)(bs:List Value)(c:Int)(w:World)(h:aq 100 5 B b bs w)(a:bs.length+1<=140737488355328)(d:B<=w.heap.size):
  Calls prog 102 #[aO (al ⟨b,0,aj⟩),.int .u8 c] w fun e w'=>e=ak .nilIface/\(Lib.BuilderAt 100 5 B b (aO (al ⟨b,0,aj⟩)) (bs++[.int .u8 c]) w'/\Below B w w'):=Any.Builder_WriteByte Abc Ac7 B b bs c w h a d
open Go.RowKit in
theorem NM(B b:Nat)(l:List UInt8)(w:World)(h:aq 100 5 B b (ai l) w)(a:B<=w.heap.size):
  Calls prog 71 #[aO (al ⟨b,0,aj⟩)] w fun e w'=>e=ak (.string ⟨l.toArray⟩)/\Below B w w':=Any.Builder_String_any Abd Ac7 B b l w h a
open Go.RowKit in
theorem Uy(s:ByteArray)(w:World)(a:s.size<=281474976710656):
  Calls prog 248 #[.string s] w fun e w'=>e=ak (.string s)/\Below w.heap.size w w':=Any.stringslite_Clone YF s w a
end
theorem Uz{c:UInt8}(h1:33<=(c.toNat:Int))(a:(c.toNat:Int)<=126):((c.toNat:Int) != 34&&(c.toNat:Int) != 35&&(c.toNat:Int) != 92)=AY c:=by
 by_cases h:(c.toNat≠34/\c.toNat≠35/\c.toNat≠92)
 ·rw[LK (by omega)];simp;omega
 ·rw[GV (by omega)];simp;omega
theorem Sr{c:UInt8}(h1:32<=(c.toNat:Int))(a:(c.toNat:Int)<=126):((c.toNat:Int) != 34&&(c.toNat:Int) != 92)=BO c:=by
 by_cases h:(c.toNat≠34/\c.toNat≠92)
 ·rw[EK (by omega)];simp;omega
 ·rw[JO (by omega)];simp;omega
theorem Gm(c:UInt8)(w:World):Calls prog 154 #[.int .u8 (c.toNat:Int)] w fun e w'=>e=ak (.bool (AY c))/\w'=w:=by
 have a:c.toNat<256:=c.toNat_lt;go_enter func154,ntmps154;go_wp2
 all_goals
  go_ret;refine⟨As ?_,rfl⟩;first|exact Uz ‹_› ‹_› | exact(GV (by omega)).symm
theorem Hg(c:UInt8)(w:World):Calls prog 249 #[.int .u8 (c.toNat:Int)] w fun e w'=>e=ak (.bool (BO c))/\w'=w:=by
 have a:c.toNat<256:=c.toNat_lt;go_enter func249,ntmps249;go_wp2
 all_goals
  go_ret;refine⟨As ?_,rfl⟩;first|exact Sr ‹_› ‹_› | exact(JO (by omega)).symm
theorem NN{c:UInt8}(a:BO c=true)(h:¬(c.toNat:Int)=32):((c.toNat:Int) != 35)=AY c:=by
 have:=DH a;by_cases b:c.toNat=35
 ·rw[GV (by omega)];simp;omega
 ·rw[LK (by omega)];simp;omega
theorem Mx{c:UInt8}(a:BO c=false):AY c=false:=by
 apply GV;intro h;rw[EK (by omega)]at a;exact aG a
theorem II(c:UInt8)(w:World):Calls prog 247 #[.int .u8 (c.toNat:Int)] w fun e w'=>e=ak (.bool (AY c))/\w'=w:=by
 have h:c.toNat<256:=c.toNat_lt;have b:=Hg c w;cases f:BO c <;> rw[f]at b
 ·have a:=Mx f;rw[a];go_enter func247,ntmps247;go_wp2_with (go_at_call 249;refine b.mono ?_;rintro e w' ⟨rfl,rfl⟩)
  go_ret;exact⟨rfl,rfl⟩
 ·by_cases d:(c.toNat:Int)=32
  ·have a:AY c=false:=GV (by omega);have g:((c.toNat:Int) != 32)=false:=by simp[d]
   rw[a];clear d;go_enter func247,ntmps247;go_wp2_with (go_at_call 249;refine b.mono ?_;rintro e w' ⟨rfl,rfl⟩)
   all_goals (go_ret;exact⟨rfl,rfl⟩)
  ·have a:=NN f d;have g:((c.toNat:Int) != 32)=true:=by simp[d]
   rw[<-a];clear a;go_enter func247,ntmps247;go_wp2_with (go_at_call 249;refine b.mono ?_;rintro e w' ⟨rfl,rfl⟩)
   all_goals (go_ret;exact⟨rfl,rfl⟩)
theorem Xa(s:ByteArray)(h:s.data.toList.all AY=true):(!s.toList.isEmpty)=CP s.data.toList:=by
 unfold CP;rw[h,ByteArray.toList_eq];simp
theorem YG(s:ByteArray)(k:Nat)(a:k<s.size)(h:AY s[k]=false):CP s.data.toList=false:=by
 unfold CP;have:s.data.toList.all AY=false:=by
  rw[List.all_eq_false];exact⟨s[k],by simp[ByteArray.getElem_eq_getElem_data],by simp[h]⟩
 rw[this];simp
theorem My(s:ByteArray)(w:World)(j:s.size<=1048576):Calls prog 226 #[.string s] w fun e w'=>e=ak (.bool (CP s.data.toList))/\w'=w:=by
 go_enter func226,ntmps226;go_wp2;go_loop [3,6] (fun _ c=>∃k:Nat,k<=s.size/\c=.int .i64 k/\(s.data.toList.take k).all AY=true) (fun _ c=>s.size-(intOf c).toNat)
 case atStart=>exact⟨0,az _,rfl,by simp⟩
 case round =>
  obtain⟨k,l,rfl,f⟩:=hrel;have g:Hid ((s.data.toList.take k).all AY=true):=f;clear f;by_cases h:k<s.size
  ·cases a:AY s[k]
   ·have b:Hid (CP s.data.toList=false):=YG s k h a;have d:=II s[k] w;rw[a]at d;clear a;go_wp2_with (go_at_call 247;refine d.mono ?_;rintro e w' ⟨rfl,rfl⟩)
    go_ret;exact⟨As b.out.symm,rfl⟩
   ·have b:Hid ((s.data.toList.take (k+1)).all AY=true):=by have:=LL s k h;rw[this,g.out,a];rfl
    have d:=II s[k] w;rw[a]at d;clear a;go_wp2_with (go_at_call 247;refine d.mono ?_;rintro e w' ⟨rfl,rfl⟩)
    go_round
    case rel=>exact⟨k+1,by omega,by go_num,b.out⟩
    case measure=>simp[intOf];omega
  ·have i:k=s.size:=by omega
   subst i;have b:Hid ((!s.toList.isEmpty)=CP s.data.toList):=Xa s (by rw[<-FI s];exact g.out);go_wp2;go_ret;exact⟨As b.out,rfl⟩
theorem Kf(s:ByteArray)(w:World)(b:s.size<=1048576):Calls prog 227 #[.string s] w fun e w'=>e=ak (.string s)/\Below w.heap.size w w':=by
 go_enter func227,ntmps227;go_wp2_with (go_at_call 248;refine(Uy s _ (by omega)).mono ?_;rintro e w' ⟨rfl,a⟩)
 go_ret;exact⟨rfl,a⟩
theorem U0(n:Nat)(h:n<(⟨#[48,49,50,51,52,53,54,55,56,57,97,98,99,100,101,102]⟩:ByteArray).size):(⟨#[48,49,50,51,52,53,54,55,56,57,97,98,99,100,101,102]⟩:ByteArray)[n]=GM n :=
 match n,h with
 | 0,_=>rfl
 | 1,_=>rfl
 | 2,_=>rfl
 | 3,_=>rfl
 | 4,_=>rfl
 | 5,_=>rfl
 | 6,_=>rfl
 | 7,_=>rfl
 | 8,_=>rfl
 | 9,_=>rfl
 | 10,_=>rfl
 | 11,_=>rfl
 | 12,_=>rfl
 | 13,_=>rfl
 | 14,_=>rfl
 | 15,_=>rfl
 | n+16,h=>absurd h (by show ¬n+16<16;omega)
theorem Ac8{c:UInt8}(h:BO c=false):qb c=[92,GM (c.toNat/16),GM (c.toNat%16)]:=by simp[qb,h]
theorem YH{c:UInt8}(h:BO c=true):qb c=[c]:=by simp[qb,h]
theorem Lc(B b:Nat)(bs:List Value)(c:UInt8)(w:World)(h:aq 100 5 B b bs w)(n:bs.length+3<=140737488355328)(i:B<=w.heap.size):
  Calls prog 228 #[aO (al ⟨b,0,aj⟩),.int .u8 (c.toNat:Int)] w fun e w'=>e=ak (.tuple #[])/\(aq 100 5 B b (bs++ai (qb c)) w'/\Below B w w'):=by
 have o:c.toNat<256:=c.toNat_lt;have a:=Hg c w;cases d:BO c <;> rw[d]at a
 ·have g:Hid (qb c=[92,GM (c.toNat/16),GM (c.toNat%16)]):=Ac8 d;go_enter func228,ntmps228;go_wp2_with (go_at_call 249;refine a.mono ?_;rintro e w' ⟨rfl,rfl⟩)
  refine(EM B b bs 92 _ h (by omega) i).mono ?_;rintro e w1 ⟨rfl,h1,f⟩;have p:=f.size;clear a d;go_wp2_with fail
  refine(EM B b _ _ _ (ap h1) (by simp;omega) (by omega)).mono ?_;rintro e w2 ⟨rfl,l,j⟩;have q:=j.size;go_wp2_with fail
  refine(EM B b _ _ _ (ap l) (by simp;omega) (by omega)).mono ?_;rintro e w3 ⟨rfl,k,m⟩;go_wp2;go_end0
  refine⟨rfl,ap ?_,f.trans (j.trans m)⟩;rw[g.out];rw[U0,U0]at k;simpa [ai] using k
 ·have g:Hid (qb c=[c]):=YH d;go_enter func228,ntmps228;go_wp2_with (go_at_call 249;refine a.mono ?_;rintro e w' ⟨rfl,rfl⟩)
  refine(EM B b bs (c.toNat:Int) _ h (by omega) i).mono ?_;rintro e w1 ⟨rfl,h1,f⟩;go_wp2;refine bodyPost_ret (v:=.tuple #[]) (by simp[results,results228,go_sem]) rfl ⟨rfl,ap ?_,f⟩;rw[g.out];simpa [ai] using h1
theorem Xb{l:List UInt8}(h:CP l=true):CZ l=l:=by simp[CZ,h]
theorem YI{l:List UInt8}(h:CP l=false):CZ l=GW l:=by simp[CZ,h]
theorem Pr(s:ByteArray)(w:World)(h:s.size<=1048576):Calls prog 181 #[.string s] w fun e w'=>e=ak (.string ⟨(CZ s.data.toList).toArray⟩)/\Below w.heap.size w w':=by
 have b:=My s w h;cases a:CP s.data.toList <;> rw[a]at b
 ·rw[YI a];clear a;have i:=Lib.fresh_isBuilder 100 5 w;go_enter func181,ntmps181;go_wp2_with (go_at_call 226;refine b.mono ?_;rintro e w' ⟨rfl,rfl⟩)
  refine(EM _ _ _ _ _ i (by simp) (by simp)).mono ?_;rintro e w1 ⟨rfl,h1,j⟩;have m:Below w'.heap.size w' w1:=((aQ _ _).alloc (an _) _).trans j;clear i j b;go_wp2_with fail
  go_loopw [4,12] (fun _ c wr=>∃k:Nat,k<=s.size/\c=.int .i64 k/\aq 100 5 w'.heap.size w'.heap.size (ai (34::(s.data.toList.take k).flatMap qb)) wr/\Below w'.heap.size w' wr) (fun _ c _=>s.size-(intOf c).toNat)
  case atStart=>exact⟨0,az _,rfl,ap (by simpa [ai] using h1),m⟩
  case round =>
   obtain⟨k,t,rfl,l,g⟩:=hrel;have u:=g.size;have v:=RT (s.data.toList.take k);have x:(s.data.toList.take k).length<=k:=List.length_take_le _ _;by_cases n:k<s.size
   ·have o:Hid ((s.data.toList.take (k+1)).flatMap qb=(s.data.toList.take k).flatMap qb++qb s[k]):=JP s k n;go_wp2_with (go_at_call 228;refine(Lc _ _ _ s[k] _ l (by rw[ar,aF];omega) (by omega)).mono ?_;rintro e w2 ⟨rfl,d,f⟩)
    go_roundw;case rel =>
     refine⟨k+1,by omega,by go_num,?_,g.trans f⟩;rw[o.out,<-List.cons_append,au];exact d
    case measure=>simp[intOf];omega
   ·have p:k=s.size:=by omega
    subst p;go_wp2_with fail
    refine(EM _ _ _ _ _ l (by rw[ar,aF];omega) (by omega)).mono ?_;rintro e w2 ⟨rfl,d,f⟩;have y:=f.size;go_wp2_with fail
    have q:aq 100 5 w'.heap.size w'.heap.size (ai (GW s.data.toList)) w2:=by
     rw[FI s]at d;refine ap ?_;simpa [GW,ai] using d
    refine(NM _ _ _ _ q (by omega)).mono ?_;rintro e w3 ⟨rfl,r⟩;go_wp2;go_ret;exact⟨rfl,g.trans (f.trans r)⟩
 ·rw[Xb a];clear a;go_enter func181,ntmps181;go_wp2_with (first|(go_at_call 226;refine b.mono ?_;rintro e w' ⟨rfl,rfl⟩)|(go_at_call 227;refine(Kf s _ h).mono ?_;rintro e w1 ⟨rfl,a⟩))
  go_ret;exact⟨rfl,a⟩
theorem Adn:(bn.info? 5).map (fun i=>(i.zero,i.size,i.bytes))=al (al (.int .u8 0),1,1):=by kernel_rfl
def E5(s:ByteArray)(k:Nat):Bool:=decide (0<(s.size:Int))&&(s.data.toList.take k).all AY
theorem Sy(s:ByteArray):decide (0<s.size)=E5 s 0:=by simp[E5]
theorem U9(s:ByteArray):E5 s s.size=CP s.data.toList:=by
 unfold E5 CP;rw[FI];have:decide (0<(s.size:Int))=!s.data.toList.isEmpty:=by
  rw[Lib.size_eq];cases s.data.toList <;> simp
 rw[this]
theorem Sz(s:ByteArray)(k:Nat)(h:k<s.size):E5 s (k+1)=(E5 s k&&AY s[k]):=by
 unfold E5;rw[LL s k h,Bool.and_assoc]
theorem YN(w:World)(x:Value):∀j u,[x][j]?=al u->(w.alloc (bg #[x] 5)).cell? ((⟨w.heap.size,0,aj⟩:Addr).add j)=al u :=
 ay (cs:=#[x]) (t:=5) (fr:=(0,0)) (aD w _)
theorem YO(w1:World)(g cap n B:Nat)(l:List UInt8)(h:w1.ownsRow B 5 1 (av (al ⟨g,0,aj⟩) (n+1) cap) (n+1) (ai l++[.int .u8 34])):
  (convert 22 9 (av (al ⟨g,0,aj⟩) (n+1) cap)).run prog w1=.ok (.string ⟨(l++[34]).toArray⟩) w1:=by
 have a:(l++[34]).length=n+1:=by have:=h.1;simpa [ar] using this
 have e:ai l++[.int .u8 34]=ai (l++[34]):=by rw[au];rfl
 rw[e]at h;rw[<-a];refine bh w1 22 9 5 ⟨g,0,aj⟩ cap (l++[34]) underlying22 underlying5 underlying9 fun j b=>?_
 refine h.cells rfl j _ ?_;simp only[ai,bk,aW b];rfl
theorem VR(W:World)(i:Int)(n:Nat)(a:i=(n:Int))(h:n<16):(Instr.index 9 (.string ⟨#[48,49,50,51,52,53,54,55,56,57,97,98,99,100,101,102]⟩) (.int .u8 i)).run prog W=.ok (.int .u8 ((GM n).toNat:Int)) W:=by
 subst a;rw[run_index_string W 9 ⟨#[48,49,50,51,52,53,54,55,56,57,97,98,99,100,101,102]⟩ .u8 (n:Int) underlying9];rw[dif_pos ⟨by omega,by show (n:Int)<16;omega⟩];rw[<-U0 n h];rfl
theorem NP(s:ByteArray)(k:Nat)(h:k<s.size)(l:List UInt8)(a:l=34::(s.data.toList.take k).flatMap qb)(b:BO s[k]=true):l++[s[k]]=34::(s.data.toList.take (k+1)).flatMap qb:=by
 rw[JP s k h,a,YH b];rfl
theorem Px(s:ByteArray)(k:Nat)(h:k<s.size)(l:List UInt8)(a:l=34::(s.data.toList.take k).flatMap qb)(b:BO s[k]=false):l++[92,GM (s[k].toNat/16),GM (s[k].toNat%16)]=34::(s.data.toList.take (k+1)).flatMap qb:=by
 rw[JP s k h,a,Ac8 b];rfl
theorem Jt(s:ByteArray)(w:World)(S:s.size<=1048576):Calls prog 152 #[.string s] w fun e w'=>e=ak (.string ⟨(CZ s.data.toList).toArray⟩)/\Below w.heap.size w w':=by
 obtain⟨i0,A,B,C,D⟩:=info_parts Adn;have K:Hid (E5 s s.size=CP s.data.toList):=U9 s;have L:Hid (decide (0<s.size)=E5 s 0):=Sy s;go_enter func152,ntmps152;go_wp2;go_loop [3,4] (fun b i=>∃(k:Nat) (f:Bool),k<=s.size/\i=.int .i64 k/\b=.bool f/\Hid (f=E5 s k)) (fun _ i=>s.size-(intOf i).toNat)
 case atStart=>exact⟨0,_,az _,rfl,rfl,L⟩
 case round =>
  obtain⟨k,f,a,rfl,rfl,j⟩:=hrel;by_cases q:k<s.size
  ·have M:Hid (E5 s (k+1)=(E5 s k&&AY s[k])):=Sz s k q;cases f
   ·go_wp2;go_round
    case rel=>exact⟨k+1,false,by omega,by go_num,rfl,by show _=_;rw[M.out,<-j.out];rfl⟩
    case measure=>simp[intOf];omega
   ·go_wp2_with (go_at_call 154;refine(Gm s[k] _).mono ?_;rintro e w' ⟨rfl,rfl⟩)
    go_round
    case rel=>exact⟨k+1,AY s[k],by omega,by go_num,rfl,by show _=_;rw[M.out,<-j.out];rfl⟩
    case measure=>simp[intOf];omega
  ·have E:k=s.size:=by omega
   subst E;rw[K.out]at j;have r:=j.out;clear j K L;cases f
   ·have F:Hid (CZ s.data.toList=GW s.data.toList):=by show _=_;simp[CZ,<-r]
    clear r;go_wp2;go_loopw [5,7] (fun v i wr=>∃(k n:Nat) (l:List UInt8),k<=s.size/\n<=3*k+1/\i=.int .i64 k/\wr.ownsRow w.heap.size 5 1 v n (ai l)/\Below w.heap.size w wr/\Hid (l=34::(s.data.toList.take k).flatMap qb)) (fun _ i _=>s.size-(intOf i).toNat)
    case atStart=>exact⟨0,1,[34],az _,by omega,rfl,bd w #[.int .u8 34] 1 (an _) (by decide) rfl,(aQ _ _).alloc (an _) _,rfl⟩
    case round =>
     obtain⟨k,n,l,a,T,rfl,d,x,y⟩:=hrel;have U:=x.size;by_cases q:k<s.size
     ·cases c:BO s[k]
      ·have G:¬(32<=s[k].toNat/\s[k].toNat<=126/\s[k].toNat≠34/\s[k].toNat≠92):=fun h=>by rw[EK h]at c;exact aG c
       have H:Hid (l++[92,GM (s[k].toNat/16),GM (s[k].toNat%16)]=34::(s.data.toList.take (k+1)).flatMap qb):=Px s k q l y.out c;clear c;have V:s[k].toNat<256:=s[k].toNat_lt;have X:IntKind.u8.wrap ((s[k].toNat:Int)/16)=(s[k].toNat:Int)/16:=wraps_u8 _ (by omega) (by omega);have Y:(s[k].toNat:Int).tmod 16=(s[k].toNat:Int)%16:=aU (by omega);have Z:(0:Int)<=(k:Int):=by omega
       have aa:(k:Int)<(s.size:Int):=by omega
       have ab:(0:Int)<=(s[k].toNat:Int)/16:=by omega
       have ac:(s[k].toNat:Int)/16<16:=by omega
       have ad:(0:Int)<=(s[k].toNat:Int)%16:=by omega
       have ae:(s[k].toNat:Int)%16<16:=by omega
       have af:=fun W=>VR W ((s[k].toNat:Int)/16) (s[k].toNat/16) (by omega) (by omega)
       have ag:=fun W=>VR W ((s[k].toNat:Int)%16) (s[k].toNat%16) (by omega) (by omega)
       have Q:(s[k].toNat:Int)<32\/(32<=(s[k].toNat:Int)/\126<(s[k].toNat:Int))\/(32<=(s[k].toNat:Int)/\(s[k].toNat:Int)<=126/\((s[k].toNat:Int) != 34)=false)\/(32<=(s[k].toNat:Int)/\(s[k].toNat:Int)<=126/\((s[k].toNat:Int) != 34)=true/\((s[k].toNat:Int) != 92)=false):=by
        simp only[bne_iff_ne,bne_eq_false_iff_eq];omega
       clear G y;rcases Q with z|⟨z,I⟩|⟨z,I,N⟩|⟨z,I,N,R⟩
       all_goals
        go_wp2
        go_region_held3 (fun _=>True) (first|trivial|exact True.intro)
         ((refine step_append_lies _ (by rfl) _ _ _ (by rfl) w.heap.size 5 i0 (.int .u8 0) 1 1 underlying22 A B C D rfl (by decide) u5 n (ai l) (by rfl) ((d.alloc _).drew)
            ⟨wr.heap.size,0,aj⟩ 3 3 [.int .u8 92,.int .u8 ((GM (s[k].toNat/16)).toNat:Int),.int .u8 ((GM (s[k].toNat%16)).toNat:Int)] (by rfl) (by rfl) (ay (cs:=#[.int .u8 92,.int .u8 ((GM (s[k].toNat/16)).toNat:Int),.int .u8 ((GM (s[k].toNat%16)).toNat:Int)]) (t:=5) (fr:=(0,0)) (aD wr _)) (by simp[Value.oneCell'])
            (by omega) (by unfold bC;omega) (by omega) (by simp;omega) (wr.heap.size+1) (by simp) ?_;intro g J w1 m o O P))
        all_goals
         go_wp2;go_roundw;case rel =>
          refine⟨k+1,n+3,_,by omega,by omega,by go_num,?_,((x.alloc (by omega) _).drew).grown o (by simp;omega) (fun k a=>(d.lt k a).1),H⟩;rw[au];exact m
         case measure=>simp[intOf];omega
      ·have G:=DH c;have H:Hid (l++[s[k]]=34::(s.data.toList.take (k+1)).flatMap qb):=NP s k q l y.out c;clear c;have z:32<=(s[k].toNat:Int):=by omega
       have I:(s[k].toNat:Int)<=126:=by omega
       have N:((s[k].toNat:Int) != 34)=true:=by rw[bne_iff_ne];omega
       have R:((s[k].toNat:Int) != 92)=true:=by rw[bne_iff_ne];omega
       clear G;go_wp2_with (at_builtin;refine bB _ rfl _ _ 22 rfl w.heap.size 5 i0 (.int .u8 0) 1 1 underlying22 A B C D rfl (by decide) _ n _ rfl (d.alloc _) ⟨wr.heap.size,0,aj⟩ 1 1 [.int .u8 (s[k].toNat:Int)] rfl rfl (YN wr _) ?c2 (by decide) ?c3 ?c4 ?c5 (wr.heap.size+1) (by simp) ?_)
       case c2=>intro u p;simp at p;subst p;rfl
       case c3=>unfold bC;omega
       case c4=>omega
       case c5=>simp;omega
       intro g J w1 m o O P;go_wp2;go_roundw;case rel =>
        refine⟨k+1,n+1,l++[s[k]],by omega,by omega,by go_num,?_,(x.alloc (by omega) _).grown o (by simp;omega) (fun k a=>(d.lt k a).1),H⟩;rw[au];exact m
       case measure=>simp[intOf];omega
     ·have E:k=s.size:=by omega
      subst E;go_wp2_with (at_builtin;refine bB _ rfl _ _ 22 rfl w.heap.size 5 i0 (.int .u8 0) 1 1 underlying22 A B C D rfl (by decide) _ n _ rfl (d.alloc _) ⟨wr.heap.size,0,aj⟩ 1 1 [.int .u8 34] rfl rfl (YN wr _) ?c2 (by decide) ?c3 ?c4 ?c5 (wr.heap.size+1) (by simp) ?_)
      case c2=>intro u p;simp at p;subst p;rfl
      case c3=>unfold bC;omega
      case c4=>omega
      case c5=>simp;omega
      intro g J w1 m o O P;have ah:=YO w1 g J n w.heap.size l m;go_wp2;go_ret;refine⟨VK ?_,(x.alloc (by omega) _).grown o (by simp;omega) (fun k a=>(d.lt k a).1)⟩;rw[F.out,y.out,FI];rfl
   ·have F:Hid (CZ s.data.toList=s.data.toList):=by show _=_;simp[CZ,<-r]
    clear r;go_wp2;go_ret;exact⟨VK F.out.symm,aQ _ _⟩
variable {p k:Nat}
theorem Ach(a b:Nat)(d:a<4611686018427387904)(e:b<4611686018427387904):bits .xor .i64 (a:Int) (b:Int)=((a ^^^ b:Nat):Int):=by
 have f:a ^^^ b<2 ^ 62:=Nat.xor_lt_two_pow (by omega) (by omega);have h1:(aC 64 (a:Int)).toNat=a:=by
  rw[a6,bc];exact bt (by omega)
 have c:(aC 64 (b:Int)).toNat=b:=by
  rw[a6,bc];exact bt (by omega)
 show IntKind.i64.wrap ((aC 64 (a:Int) ^^^ aC 64 (b:Int)).toNat:Int)=_
 rw[BitVec.toNat_xor,h1,c,IntKind.wrap_i64];omega
def Rd(B:Nat)(w:World)(p k:Nat):Prop :=
 B<=p/\∃(a:Option Addr) (c e:Nat),w.heap[p]?=al (bg #[av a c e,.int .i64 (k:Int)] 152 (0,0))/\c<=2000 /\
  (c=0\/∃b off,a=al ⟨b,off,aj⟩/\b<B/\∀i,i<c->∃d:Nat,d<256/\w.cell? ⟨b,off+i,aj⟩=al (.int .u8 (d:Int)))
theorem Rd.lt(h:Rd B w p k):p<w.heap.size:=by
 obtain⟨_,_,_,_,a,_⟩:=h;exact(aR.1 a).1
theorem Rd.kept(h:Rd B w p k)(c:w.grownBy w' aj):Rd B w' p k:=by
 have d:=h.lt;obtain⟨e,a,f,g,j,l,m⟩:=h;refine⟨e,a,f,g,by rw[c.block p d (by simp)];exact j,l,?_⟩;rcases m with n|⟨b,off,o,q,r⟩
 ·exact aA n
 ·refine ap ⟨b,off,o,q,fun i s=>?_⟩;obtain⟨t,u,v⟩:=r i s;exact⟨t,u,c.cell v (by simp)⟩
theorem Rd.V(h:Rd B w p k)(a:Below w.heap.size w w'):Rd B w' p k:=h.kept (Ar a aj)
theorem Rd.step(h:Rd B w p k):Rd B (w.setCell ⟨p,1,aj⟩ (.int .i64 ((k:Int)+1))) p (k+1)/\w.grownBy (w.setCell ⟨p,1,aj⟩ (.int .i64 ((k:Int)+1))) (al p):=by
 obtain⟨f,a,g,j,l,m,n⟩:=h;have d:w.grownBy (w.setCell ⟨p,1,aj⟩ (.int .i64 ((k:Int)+1))) (al p):=⟨rfl,rfl,rfl,by simp,fun i _ c=>heap_setCell_other w ⟨p,1,aj⟩ i _ (fun e=>c (by simp[e]))⟩;refine⟨⟨f,a,g,j,by rw[heap_setCell_same w p 1 _ _ _ l];rfl,m,?_⟩,d⟩;rcases n with o|⟨b,off,q,r,s⟩
 ·exact aA o
 ·refine ap ⟨b,off,q,r,fun i c=>?_⟩;obtain⟨t,u,v⟩:=s i c;exact⟨t,u,d.cell v (by simp;omega)⟩
def Ad8(n B p k:Nat)(w:World)(e:Ending)(w':World):Prop :=
 ∃x:Nat,x<n/\e=ak (.int .i64 (x:Int))/\Rd B w' p (k+1)/\w.grownBy w' (al p)
theorem Ns(h:Rd B w p k)(q:Nat):Rd B (w.drewN q) p k:=h
theorem KQ{row:Option Nat}(h:w.grownBy w' row)(q:Nat):w.grownBy (w'.drewN q) row:=⟨h.os,h.tape,h.output,h.size,h.block⟩
theorem L5(n:Nat)(h:n<4611686018427387904):aH (n:Int)=(n:Int):=by unfold aH;omega
theorem ZJ(b z2 k a n:Nat)(h1:b<256)(f:z2<256)(g:k<=1000000)(_hl:1<=a)(h:1<=n):
  ∃x:Nat,x<n/\(bits .xor .i64 (aH ((b:Int)*131+(z2:Int)*1117+(k:Int)*29+aH (aH ((k:Int)/(a:Int))*53))) (aH ((aH ((b:Int)*131+(z2:Int)*1117+(k:Int)*29+aH (aH ((k:Int)/(a:Int))*53))).tdiv 64))).tmod (n:Int)=(x:Int):=by
 have hd:k/a<=k:=bz _ _;have d:(k:Int)/(a:Int)=((k/a:Nat):Int):=(Int.natCast_ediv _ _).symm;rw[d,L5 _ (by omega),show ((k/a:Nat):Int)*53=((k/a*53:Nat):Int) from by omega,L5 _ (by omega)];rw[show (b:Int)*131+(z2:Int)*1117+(k:Int)*29+((k/a*53:Nat):Int)=((b*131+z2*1117+k*29+k/a*53:Nat):Int) from by omega];have c:b*131+z2*1117+k*29+k/a*53<4611686018427387904:=by omega
 generalize b*131+z2*1117+k*29+k/a*53=N at *;rw[L5 N c];have e:(N:Int).tdiv 64=((N/64:Nat):Int):=by rw[Int.tdiv_eq_ediv_of_nonneg (by omega)];omega
 rw[e,L5 _ (by omega),Ach N (N/64) c (by omega)];refine⟨(N ^^^ N/64)%n,aT _ (by omega),?_⟩;rw[aU (by omega)];exact(aJ _ _).symm
theorem A1(B p k n:Nat)(w:World)(h:Rd B w p k)(C:1<=n)(D:n<=1000)(m:k<=1000000):
  Calls prog 44 #[aO (al ⟨p,0,aj⟩),.int .i64 (n:Int)] w fun e w'=>Ad8 n B p k w e w':=by
 have d:=h.step;obtain⟨E,a,c,o,f,F,j⟩:=h;have c0:w.cell? ⟨p,0,aj⟩=al (av a c o):=by rw[aI f];rfl
 have G:w.cell? ⟨p,1,aj⟩=al (.int .i64 (k:Int)):=by rw[aI f];rfl
 have H:w.frozen? ⟨p,1,aj⟩=false:=Lib.frozen_of_heap f 1;have I:¬(n:Int)<1:=by omega
 by_cases q:c=0
 ·have r:((c:Int)==0)=true:=by rw[beq_iff_eq];omega
  clear j;go_enter func44,ntmps44;go_wp2;go_ret;exact⟨0,by omega,rfl,d.1,d.2⟩
 ·have r:((c:Int)==0)=false:=by rw[beq_eq_false_iff_ne];omega
  rcases j with h1|⟨b,off,rfl,J,g⟩
  ·exact absurd h1 q
  ·have K:¬b=p:=by omega
   have L:¬p=b:=by omega
   by_cases s:k<c
   ·obtain⟨l,M,N⟩:=g k s;have i:=aT l (show 0<n by omega);have O:((n:Int)==0)=false:=by rw[beq_eq_false_iff_ne];omega
    go_enter func44,ntmps44;go_wp2;go_ret;exact⟨l%n,i,by simp,d.1,d.2⟩
   ·have t:k%c<c:=aT _ (by omega);have u:(k*7+3)%c<c:=aT _ (by omega);obtain⟨v,y,P⟩:=g _ t;obtain⟨z2,z,Q⟩:=g _ u;have R:k/c<=k:=bz _ _;have S:(0:Int)<=(k:Int)%(c:Int):=bA _ (by omega);have T:(k:Int)%(c:Int)<(c:Int):=bl _ (by omega);have U:(0:Int)<=((k:Int)*7+3)%(c:Int):=bA _ (by omega);have V:((k:Int)*7+3)%(c:Int)<(c:Int):=bl _ (by omega);have W:((k:Int)%(c:Int)).toNat=k%c:=by rw[<-aJ];exact bp _
    have t2:(((k:Int)*7+3)%(c:Int)).toNat=(k*7+3)%c:=by rw[show ((k:Int)*7+3)=((k*7+3:Nat):Int) from by omega,<-aJ];exact bp _
    go_enter func44,ntmps44;go_wp2;go_quiet (fail)
    go_wp2;go_ret;obtain⟨x,i,A⟩:=ZJ v z2 k c n y z m (by omega) (by omega);exact⟨x,i,Co A,Ns d.1 _,KQ d.2 _⟩
theorem OU(u:ByteArray)(m q:Nat)(a:2*q<=m)(b:u.size*m<=1000000):q=0\/(u++u).size<=1000000:=by
 by_cases h:q=0
 ·exact aA h
 ·right;rw[am];have:u.size*2<=u.size*m:=aS (an _) (by omega);omega
theorem C8(s:ByteArray)(n:Nat)(w:World)(c:s.size<=1000)(b:n<=1000):Calls prog 80 #[.string s,.int .i64 (n:Int)] w fun e w'=>∃t:ByteArray,t.size=s.size*n/\e=ak (.string t)/\w'=w:=by
 go_enter func80,ntmps80;go_wp2;go_loop [0,1,5] (fun x i o=>∃(u t:ByteArray) (m:Nat),x=.string u/\i=.int .i64 (m:Int)/\o=.string t/\m<=1000/\t.size+u.size*m=s.size*n/\u.size<=2000000/\(m=0\/u.size<=1000000)) (fun _ i _=>(intOf i).toNat)
 case atStart=>exact⟨s,⟨#[]⟩,n,rfl,rfl,rfl,b,by show 0+_=_;omega,by omega,ap (by omega)⟩
 case round =>
  obtain⟨u,t,m,rfl,rfl,rfl,h,a,j,k⟩:=hrel;by_cases f:m=0
  ·subst f;go_wp2;go_ret;exact⟨t,by omega,rfl,rfl⟩
  ·have h1:(0:Int)<(m:Int):=by omega
   have d:u.size*m<=1000000:=by
    have:s.size*n<=1000*1000:=aS c b;omega
   have l:u.size<=u.size*m:=Nat.le_mul_of_pos_right _ (by omega);have p:t.size<=1000000:=by
    have:s.size*n<=1000*1000:=aS c b;omega
   by_cases r:m%2=1
   ·have g:((m:Int)%2==1)=true:=by rw[beq_iff_eq];omega
    have key:(t++u).size+(u++u).size*(m/2)=s.size*n:=by
     have e:m=2*(m/2)+1:=by omega
     rw[am,am];rw[e]at a;generalize m/2=q at *;rw[Nat.mul_add,Nat.mul_one,<-bM]at a;rw[aN];have:u.size*2*q=u.size*q+u.size*q:=by rw[bS,aN]
     omega
    go_wp2;go_round
    case rel=>exact⟨u++u,t++u,m/2,rfl,by go_num,rfl,by omega,key,by rw[am];omega,OU u m (m/2) (by omega) d⟩
    case measure=>simp[intOf];omega
   ·have g:((m:Int)%2==1)=false:=by rw[beq_eq_false_iff_ne];omega
    have key:t.size+(u++u).size*(m/2)=s.size*n:=by
     have e:m=2*(m/2):=by omega
     rw[am];rw[e]at a;generalize m/2=q at *;rw[<-bM]at a;rw[aN];have:u.size*2*q=u.size*q+u.size*q:=by rw[bS,aN]
     omega
    go_wp2;go_round
    case rel=>exact⟨u++u,t,m/2,rfl,by go_num,rfl,by omega,key,by rw[am];omega,OU u m (m/2) (by omega) d⟩
    case measure=>simp[intOf];omega
def GL(M B p:Nat)(w:World)(e:Ending)(w':World)(k d:Nat):Prop :=
 ∃(t:ByteArray) (k':Nat),t.size<=M/\k'<=k+d/\e=ak (.string t)/\Rd B w' p k'/\w.grownBy w' (al p)
theorem BI(h:w.grownBy w' aj)(row:Option Nat):w.grownBy w' row:=⟨h.os,h.tape,h.output,h.size,fun i a _=>h.block i a (by simp)⟩
theorem E1(w1 w2:World)(l:List ByteArray)(M y p:Nat)(a:∀u∈l,u.size<=M)(b:y<l.length)(c:(w1.alloc (bg (l.map bD).toArray 9)).grownBy w2 (al p))(d:p<w1.heap.size):
  ∃u:ByteArray,u.size<=M/\w2.cell? ⟨w1.heap.size,y,aj⟩=al (.string u):=by
 refine⟨l[y],a _ (List.getElem_mem _),c.cell ?_ (by simp;omega)⟩;rw[aI (aD w1 _)];simp[b]
theorem Vv(B p k:Nat)(w:World)(h:Rd B w p k)(m:k<=900000):
  Calls prog 243 #[aO (al ⟨p,0,aj⟩)] w fun e w'=>GL 200 B p w e w' k 2:=by
 go_enter func243,ntmps243;go_wp2_with (go_at_call 44;refine(A1 B p k 2 w h (by omega) (by omega) (by omega)).mono ?_)
 rintro e w1 ⟨x,n,rfl,h1,f⟩;have b:=C8 ⟨#[116]⟩ (200-x) w1 (by decide) (by omega);have c:((200-x:Nat):Int)=200-(x:Int):=by omega
 rw[c]at b;clear c;go_wp2_with (go_at_call 80;refine b.mono ?_)
 rintro e w1 ⟨t,g,rfl,rfl⟩;clear b;go_wp2_with (go_at_call 44;refine(A1 B p (k+1) 8 _ (h1.V ((aQ _ _).alloc (an _) _)) (by omega) (by omega) (by omega)).mono ?_)
 rintro e w2 ⟨y,i,rfl,j,d⟩;have l:t.size<=200:=by rw[g];show 1*(200-x)<=200;omega
 obtain⟨u,a,o⟩:=E1 w1 w2 [⟨#[122,111,110,101,61,101,97,115,116]⟩,⟨#[115,115,100,32,124,32,33,111,108,100]⟩,⟨#[]⟩,⟨#[113,34,117,92,111,10,255]⟩,⟨#[97,35,98]⟩,⟨#[120]⟩,⟨#[116,119,111,32,119,111,114,100,115]⟩,t] 200 y p (by intro u a;simp only[bH,List.not_mem_nil,or_false]at a;rcases a with rfl|rfl|rfl|rfl|rfl|rfl|rfl|rfl;all_goals first|exact l|decide) i d h1.lt;go_wp2;go_ret;exact⟨u,k+1+1,a,by omega,rfl,j,Ah f (Ah (BI (World.grownBy_alloc _ _ _) _) d)⟩
