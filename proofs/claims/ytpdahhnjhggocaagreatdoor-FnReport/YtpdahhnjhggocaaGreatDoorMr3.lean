import Derived.Test.YtpdahhnjhggocaaGreatDoorMr1
import Derived.Shelf.Strings.Trim
import Derived.Shelf.Small.Strs
open Go.Proofs.Tryz
open Option renaming none->aA,some->aG
open Go.Value renaming string->aB,slice->aC,agg->aP,tuple->aR,slice->bX
open Go renaming bodyPost_ret->aD,results->aI,wpList_append_lies->aL,maxLen->bG,info_parts->bH,heap_setCell_same->bW
open List renaming length_append->aE,drop_of_length_le->aO,all_eq_true->aT,takeWhile_append_of_pos->bA,drop_zero->bC,drop_drop->bD,take_append_drop->bI,dropWhile_suffix->bJ,takeWhile_cons->bK,size_toArray->bN
open Go.Ending renaming returned->aF
open Go.Lib renaming extract_data->aH,byteCells->aS,cell_of_heap->aV,byteCells_append->aX,indexByte->bF,frozen_of_heap->bO,alloc_old->ca
open UInt8 renaming ofNat->aJ
open Go.Obj renaming cells->aK
open Nat renaming le_refl->aM,lt_of_le_of_lt->bM,lt_succ_self->bV
open Go.RowKit.Below renaming refl->aN
open Go.World renaming ownsRow_nil->aQ
open Bool renaming noConfusion->aU,not_eq_true->bR
open Go.IntKind renaming i64->aW
open Array renaming eq_empty_of_size_eq_zero->aY
open ByteArray renaming ext->aZ,size_extract->bB
open Go.ByteArray renaming toList_eq->bE
open True renaming intro->bL
open Or renaming inl->bP,inr->b9
open Go.Shelf renaming Ren->bQ
open Go.Proofs.Tryz renaming zeroValue9->bS,zeroValue5->bT,zeroValue3->bU,sizeOf9->bY,sizeOf5->bZ,sizeOf3->b5,func294->b6,func263->b7,func250->b8,isAgg9->cd,isAgg5->ce,isAgg3->cf
open Go.Proofs.Lays renaming n161->cb,n137->cc
namespace Go.Proofs.YtpdahhnjhggocaaGreatDoor
open Go.RowKit
set_option maxHeartbeats 16000000
set_option maxRecDepth 100000
section
open Go.Shelf
def lays161_ren:bQ:=⟨fun|161=>255|231=>265|227=>266|233=>267|235=>268|228=>276|197=>277|151=>278|260=>288|152=>289|137=>294|119=>295|224=>252|225=>251|217=>250|266=>263|n=>n,fun|9=>9|4=>4|3=>3|5=>5|117=>322|116=>321|0=>0|124=>325|105=>335|21=>21|119=>353|46=>215|139=>356|138=>355|n=>n,fun|3=>6|4=>7|n=>n⟩
theorem Abk:cb prog lays161_ren:={
 mixed:=by kernel_rfl
 f119:=Tryz.func295.trans (congrArg aG (by kernel_rfl))
 f137:=b6.trans (congrArg aG (by kernel_rfl))
 f151:=Tryz.func278.trans (congrArg aG (by kernel_rfl))
 f152:=Tryz.func289.trans (congrArg aG (by kernel_rfl))
 f161:=Tryz.func255.trans (congrArg aG (by kernel_rfl))
 f197:=Tryz.func277.trans (congrArg aG (by kernel_rfl))
 f217:=b8.trans (congrArg aG (by kernel_rfl))
 f224:=Tryz.func252.trans (congrArg aG (by kernel_rfl))
 f225:=Tryz.func251.trans (congrArg aG (by kernel_rfl))
 f227:=Tryz.func266.trans (congrArg aG (by kernel_rfl))
 f228:=Tryz.func276.trans (congrArg aG (by kernel_rfl))
 f231:=Tryz.func265.trans (congrArg aG (by kernel_rfl))
 f233:=Tryz.func267.trans (congrArg aG (by kernel_rfl))
 f235:=Tryz.func268.trans (congrArg aG (by kernel_rfl))
 f260:=Tryz.func288.trans (congrArg aG (by kernel_rfl))
 f266:=b7.trans (congrArg aG (by kernel_rfl))
 t0:=underlying0
 a0:=Tryz.isAgg0
 z0:=Tryz.sizeOf0
 v0:=Tryz.zeroValue0
 t3:=underlying3
 a3:=cf
 z3:=b5
 v3:=bU
 t4:=underlying4
 a4:=Tryz.isAgg4
 z4:=Tryz.sizeOf4
 v4:=Tryz.zeroValue4
 t5:=underlying5
 a5:=ce
 z5:=bZ
 v5:=bT
 t9:=underlying9
 a9:=cd
 z9:=bY
 v9:=bS
 t21:=underlying21
 a21:=Tryz.isAgg21
 z21:=Tryz.sizeOf21
 v21:=Tryz.zeroValue21
 t46:=underlying215
 a46:=Tryz.isAgg215
 z46:=Tryz.sizeOf215
 v46:=Tryz.zeroValue215
 t105:=underlying335
 a105:=Tryz.isAgg335
 z105:=Tryz.sizeOf335
 v105:=Tryz.zeroValue335
 t116:=underlying321
 a116:=Tryz.isAgg321
 z116:=Tryz.sizeOf321
 t117:=underlying322
 a117:=Tryz.isAgg322
 z117:=Tryz.sizeOf322
 v117:=Tryz.zeroValue322
 t119:=underlying353
 a119:=Tryz.isAgg353
 z119:=Tryz.sizeOf353
 t124:=underlying325
 a124:=Tryz.isAgg325
 z124:=Tryz.sizeOf325
 v124:=Tryz.zeroValue325
 t138:=underlying355
 a138:=Tryz.isAgg355
 z138:=Tryz.sizeOf355
 v138:=Tryz.zeroValue355
 t139:=underlying356
 a139:=Tryz.isAgg356
 z139:=Tryz.sizeOf356
 v139:=Tryz.zeroValue356
 g3:=by kernel_rfl
 g4:=by kernel_rfl }
open Go.RowKit in
theorem strings_TrimLeft_one(s:ByteArray)(c:UInt8)(a:c.toNat<128)(w:World):
  Calls prog 255 #[aB s,aB ⟨#[c]⟩] w fun e w'=>e=aF (aB ⟨(Lib.trimLeftB s.data.toList c).toArray⟩)/\w'=w:=Any.strings_TrimLeft_one Abk s c a w
def lays137_ren:bQ:=⟨fun|137=>294|217=>250|266=>263|n=>n,fun|9=>9|5=>5|3=>3|n=>n,fun|n=>n⟩
theorem Abl:cc prog lays137_ren:={
 mixed:=by kernel_rfl
 f137:=b6.trans (congrArg aG (by kernel_rfl))
 f217:=b8.trans (congrArg aG (by kernel_rfl))
 f266:=b7.trans (congrArg aG (by kernel_rfl))
 t3:=underlying3
 a3:=cf
 z3:=b5
 v3:=bU
 t5:=underlying5
 a5:=ce
 z5:=bZ
 v5:=bT
 t9:=underlying9
 a9:=cd
 z9:=bY
 v9:=bS }
open Go.RowKit in
theorem strings_IndexByte(s:ByteArray)(c:Int)(w:World):
  Calls prog 294 #[aB s,.int .u8 c] w fun e w'=>e=aF (.int .i64 (bF s.data.toList c.toNat.toUInt8))/\w'=w:=Any.strings_IndexByte Abl s c w
end
def hexI(c:UInt8):Int:=if hexV c<16 then (hexV c:Int) else -1
theorem YY{c:UInt8}(h1:48<=c.toNat)(a:c.toNat<=57):hexV c=c.toNat-48:=by simp[hexV,h1,a]
theorem YZ{c:UInt8}(h1:97<=c.toNat)(a:c.toNat<=102):hexV c=c.toNat-87:=by
 unfold hexV;rw[if_neg (by omega),if_pos (by omega)]
theorem Abm{c:UInt8}(h1:¬(48<=c.toNat/\c.toNat<=57))(a:¬(97<=c.toNat/\c.toNat<=102)):hexV c=16:=by
 unfold hexV;rw[if_neg h1,if_neg a]
theorem SE{c:UInt8}(h1:48<=c.toNat)(a:c.toNat<=57):hexI c=(c.toNat:Int)-48:=by
 unfold hexI;rw[YY h1 a,if_pos (by omega)];omega
theorem SF{c:UInt8}(h1:97<=c.toNat)(a:c.toNat<=102):hexI c=(c.toNat:Int)-97+10:=by
 unfold hexI;rw[YZ h1 a,if_pos (by omega)];omega
theorem Abn{c:UInt8}(h1:¬(48<=c.toNat/\c.toNat<=57))(a:¬(97<=c.toNat/\c.toNat<=102)):hexI c=-1:=by
 unfold hexI;rw[Abm h1 a,if_neg (by omega)]
theorem Ia(c:UInt8)(w:World):Calls prog 214 #[.int .u8 (c.toNat:Int)] w fun e w'=>e=aF (.int .i64 (hexI c))/\w'=w:=by
 have a:c.toNat<256:=c.toNat_lt;go_enter func214,ntmps214;go_wp2
 all_goals
  go_ret;refine⟨Co ?_,rfl⟩;first|exact(Abn (by omega) (by omega)).symm|(rw[SE (by omega) (by omega)];done)|(rw[SF (by omega) (by omega)];done)|(rw[SE (by omega) (by omega)];go_num)|(rw[SF (by omega) (by omega)];go_num)
theorem Za(c:UInt8):(((c.toNat:Int)==32) || ((c.toNat:Int)==35))=decide (c.toNat=32\/c.toNat=35):=by
 rw[Bool.eq_iff_iff];simp;omega
theorem Jy(t:ByteArray)(w:World)(f:t.size<=1048576):Calls prog 257 #[aB t] w fun e w'=>e=aF (.bool (Dd t.data.toList))/\w'=w:=by
 by_cases a:t.size=0
 ·have b:t=⟨#[]⟩:=by apply aZ;exact aY a
  subst b;go_enter func257,ntmps257;go_wp2;go_ret;exact⟨rfl,rfl⟩
 ·have g:(0:Int)<(t.size:Int):=by omega
  have c:0<t.size:=by omega
  have i:t.toList.isEmpty=false:=by rw[bE];cases h:t.data.toList with|nil=>exact absurd (by rw[Lib.size_eq,h];rfl) a|cons _ _=>rfl
  have d:Hid (Dd t.data.toList=decide (t[0].toNat=32\/t[0].toNat=35)):=by
   show _=_
   have:=Bj t 0 c;rw[bC]at this;rw[this];rfl
  go_enter func257,ntmps257;go_wp2
  all_goals
   go_ret;refine⟨As ?_,rfl⟩;rw[d.out];first|exact(decide_eq_true (by omega)).symm|exact Za t[0]
def qB:List UInt8->Option (UInt8 × Nat)
 | []=>aA
 | c::r=>if BO c=true then aG (c,1) else if c.toNat=92 then (match r with|a::b::_=>if hexV a<16/\hexV b<16 then aG (aJ (16*hexV a+hexV b),3) else aA|_=>aA) else aA
theorem Aew(t:ByteArray)(h:2<t.size):t.data.toList=t[0]::t[1]::t[2]::t.data.toList.drop 3:=by
 have a:=Bj t 0 (by omega);have h1:=Bj t 1 (by omega);have b:=Bj t 2 (by omega);rw[bC]at a;exact a.trans (congrArg _ (h1.trans (congrArg _ b)))
theorem Fy(t:ByteArray)(h:0<t.size):t.data.toList=t[0]::t.data.toList.drop 1:=by
 have a:=Bj t 0 h;rw[bC]at a;exact a
theorem Zb(t:ByteArray)(h:0<t.size)(a:BO t[0]=true):qB t.data.toList=aG (t[0],1):=by
 rw[Fy t h];simp[qB,a]
theorem Zc(t:ByteArray)(h:0<t.size)(a:BO t[0]=false)(b:t[0].toNat≠92):qB t.data.toList=aA:=by
 rw[Fy t h];simp[qB,a,b]
theorem Zd(t:ByteArray)(h:0<t.size)(a:BO t[0]=false)(c:t.size<3):qB t.data.toList=aA:=by
 have b:(t.data.toList.drop 1).length<=1:=by simp;omega
 rw[Fy t h]
 match t.data.toList.drop 1,b with
 | [],_=>simp[qB,a]
 | [_],_=>simp[qB,a]
theorem Ado(t:ByteArray)(h:2<t.size)(a:t[0].toNat=92):qB t.data.toList=if hexV t[1]<16/\hexV t[2]<16 then aG (aJ (16*hexV t[1]+hexV t[2]),3) else aA:=by
 have b:BO t[0]=false:=JO (by omega);rw[Aew t h];simp[qB,b,a]
theorem Ze(c:UInt8):bF [48,49,50,51,52,53,54,55,56,57,97,98,99,100,101,102] c=hexI c:=by
 have h:∀n,n<256->bF [48,49,50,51,52,53,54,55,56,57,97,98,99,100,101,102] n.toUInt8=hexI n.toUInt8:=by decide +kernel
 have:=h c.toNat c.toNat_lt;simpa using this
theorem Jz(c:UInt8)(w:World):Calls prog 294 #[aB ⟨#[48,49,50,51,52,53,54,55,56,57,97,98,99,100,101,102]⟩,.int .u8 (c.toNat:Int)] w fun e w'=>e=aF (.int .i64 (hexI c))/\w'=w:=by
 have a:=strings_IndexByte ⟨#[48,49,50,51,52,53,54,55,56,57,97,98,99,100,101,102]⟩ (c.toNat:Int) w;have e:((c.toNat:Int)).toNat.toUInt8=c:=by simp
 rw[e]at a;have b:=Ze c;rw[show (⟨#[48,49,50,51,52,53,54,55,56,57,97,98,99,100,101,102]⟩:ByteArray).data.toList=[48,49,50,51,52,53,54,55,56,57,97,98,99,100,101,102] from rfl,b]at a;exact a
def qV(o:Option (UInt8 × Nat)):Value:=match o with|none=>aR #[.int .u8 0,.int .i64 0] | some p=>aR #[.int .u8 (p.1.toNat:Int),.int .i64 (p.2:Int)]
theorem VU(a b:Nat)(c:a<16)(d:b<16):((aJ (16*a+b)).toNat:Int)=(a:Int)*16+(b:Int):=by
 have:(aJ (16*a+b)).toNat=16*a+b:=by
  rw[UInt8.toNat_ofNat'];omega
 rw[this];omega
theorem Aex{a b:Nat}(h:((aJ (16*a+b)).toNat:Int)=(a:Int)*16+(b:Int)):Value.tuple #[.int .u8 ((a:Int)*16+(b:Int)),.int .i64 3]=qV (aG (aJ (16*a+b),3)):=by
 unfold qV;simp only[h];rfl
theorem J0{c:UInt8}(h:hexV c<16):hexI c=(hexV c:Int):=by simp[hexI,h]
theorem Lq{c:UInt8}(h:¬hexV c<16):hexI c=-1:=by simp[hexI,h]
theorem MK(t:ByteArray)(w:World)(m:0<t.size)(s:t.size<=1048576):Calls prog 333 #[aB t] w fun e w'=>e=aF (qV (qB t.data.toList))/\w'=w:=by
 have u:(0:Int)<(t.size:Int):=by omega
 have f:=Hg t[0] w;cases d:BO t[0] <;> rw[d]at f
 ·by_cases j:t[0].toNat=92
  ·have o:((t[0].toNat:Int) != 92)=false:=by rw[bne_eq_false_iff_eq];omega
   by_cases p:t.size<3
   ·rw[Zd t m d p];have q:(t.size:Int)<3:=by omega
    clear j d;go_enter func333,ntmps333;go_wp2_with (go_at_call 249;refine f.mono ?_;rintro e w' ⟨rfl,rfl⟩)
    go_ret2
    exact⟨rfl,rfl⟩
   ·have q:¬(t.size:Int)<3:=by omega
    have v:(1:Int)<(t.size:Int):=by omega
    have x:(2:Int)<(t.size:Int):=by omega
    have k:=Jz (t[1]'(by omega)) w;have l:=Jz (t[2]'(by omega)) w;have c:=Ado t (by omega) j;clear j d;by_cases g:hexV (t[1]'(by omega))<16
    ·rw[J0 g]at k;by_cases i:hexV (t[2]'(by omega))<16
     ·rw[J0 i]at l;rw[if_pos ⟨g,i⟩]at c;rw[c];have n:=VU _ _ g i;have r:Hid _:=n;clear c n;generalize hexV (t[1]'(by omega))=a at *;generalize hexV (t[2]'(by omega))=b at *;go_enter func333,ntmps333;go_wp2_with (go_at_call 249;refine f.mono ?_;rintro e w' ⟨rfl,rfl⟩)
      refine k.mono ?_;rintro e w' ⟨rfl,rfl⟩;go_wp2_with fail
      refine l.mono ?_;rintro e w' ⟨rfl,rfl⟩;go_wp2;go_ret2
      exact⟨Fo (Aex r.out),rfl⟩
     ·rw[Lq i]at l;rw[if_neg (fun h=>i h.2)]at c;rw[c];clear c i;generalize hexV (t[1]'(by omega))=a at *;go_enter func333,ntmps333;go_wp2_with (go_at_call 249;refine f.mono ?_;rintro e w' ⟨rfl,rfl⟩)
      refine k.mono ?_;rintro e w' ⟨rfl,rfl⟩;go_wp2_with fail
      refine l.mono ?_;rintro e w' ⟨rfl,rfl⟩;go_wp2;go_ret2
      exact⟨rfl,rfl⟩
    ·rw[Lq g]at k;rw[if_neg (fun h=>g h.1)]at c;rw[c];clear c g;generalize hexI (t[2]'(by omega))=b at *;go_enter func333,ntmps333;go_wp2_with (go_at_call 249;refine f.mono ?_;rintro e w' ⟨rfl,rfl⟩)
     refine k.mono ?_;rintro e w' ⟨rfl,rfl⟩;go_wp2_with fail
     refine l.mono ?_;rintro e w' ⟨rfl,rfl⟩;go_wp2;go_ret2
     exact⟨rfl,rfl⟩
  ·rw[Zc t m d j];have o:((t[0].toNat:Int) != 92)=true:=by rw[bne_iff_ne];omega
   clear j d;go_enter func333,ntmps333;go_wp2_with (go_at_call 249;refine f.mono ?_;rintro e w' ⟨rfl,rfl⟩)
   go_ret2
   exact⟨rfl,rfl⟩
 ·rw[Zb t m d];clear d;go_enter func333,ntmps333;go_wp2_with (go_at_call 249;refine f.mono ?_;rintro e w' ⟨rfl,rfl⟩)
  go_ret2
  exact⟨rfl,rfl⟩
theorem UM(t:ByteArray)(k:Nat)(c:k<=t.size)(a:(t.data.toList.take k).all AY=true)(hend:k=t.size\/∃h:k<t.size,AY t[k]=false):t.data.toList.takeWhile AY=t.data.toList.take k:=by
 have e:t.data.toList=t.data.toList.take k++t.data.toList.drop k:=(bI k _).symm;have h1:∀x∈t.data.toList.take k,AY x=true:=aT.1 a
 conv=>lhs;rw[e]
 rw[bA h1];rcases hend with rfl|⟨h,b⟩
 ·rw[aO (by simp)];simp
 ·rw[Bj t k h,bK];simp[b]
def NR(t:ByteArray)(e:Ending):Prop:=∃(a b:ByteArray) (ok:Bool),e=aF (aR #[aB a,aB b,.bool ok]) /\
 ((CW t.data.toList=aA/\ok=false)\/∃x n,CW t.data.toList=aG (x,n)/\ok=true/\a=⟨x.toArray⟩/\b=t.extract n t.size)
theorem Xk(t:ByteArray)(g:0<t.size)(c:t[0].toNat≠34)(k:Nat)(i:k<=t.size)(d:(t.data.toList.take k).all AY=true)(hend:k=t.size\/∃h:k<t.size,AY t[k]=false):
  NR t (aF (aR #[aB (t.extract 0 k),aB (t.extract k t.size),.bool (decide (0<k))])):=by
 have e:=UM t k i d hend;refine⟨_,_,_,rfl,?_⟩;have b:=Fy t g;by_cases f:k=0
 ·left;subst f;refine⟨?_,rfl⟩;have a:AY t[0]=false:=by
   rcases hend with h|⟨_,h⟩
   ·omega
   ·exact h
  rw[b,CW,if_neg c,if_pos a]
 ·right;have a:¬AY t[0]=false:=by
   intro a;have j:t[0]∈t.data.toList.take k:=by
    rw[b];match k,f with|k+1,_=>simp
   have:=aT.1 d _ j;rw[a]at this;exact aU this
  refine⟨t.data.toList.take k,k,?_,by simp;omega,Ud t k,rfl⟩;rw[<-e];have:k=(t.data.toList.takeWhile AY).length:=by rw[e];simp;omega
  conv=>rhs;rw[this]
  conv=>lhs;rw[b]
  rw[CW,if_neg c,if_neg a,<-b]
theorem P9(t:ByteArray)(w:World)(m:0<t.size)(j:t[0].toNat≠34)(o:t.size<=1048576):
  Calls prog 334 #[aP #[],aB t] w fun e w'=>NR t e/\Below w.heap.size w w':=by
 have a:=fun k d b hend=>(show Hid (NR t (aF (aR #[aB (t.extract 0 k),aB (t.extract k t.size),.bool (decide (0<k))]))) from Xk t m j k d b hend)
 clear j;go_enter func334,ntmps334;go_wp2;go_loop [7] (fun i=>∃k:Nat,k<=t.size/\i=.int .i64 k/\Hid ((t.data.toList.take k).all AY=true)) (fun i=>t.size-(intOf i).toNat)
 case atStart=>exact⟨0,Nat.zero_le _,rfl,by show _=_;simp⟩
 case round =>
  obtain⟨k,d,rfl,b⟩:=hrel;by_cases l:k<t.size
  ·have f:=II t[k] (w.alloc (aK #[] 328));cases c:AY t[k] <;> rw[c]at f
   ·have g:Hid (NR t (aF (aR #[aB (t.extract 0 k),aB (t.extract k t.size),.bool (decide (0<k))]))):=a k d b.out (b9 ⟨l,c⟩);clear a c;go_wp2_with (go_at_call 247;refine f.mono ?_;rintro e w' ⟨rfl,rfl⟩)
    go_region_held3 (fun _=>True) (first|trivial|exact bL)
     (first|(go_at_call 227;refine(Kf (t.extract 0 k) _ ?_).mono ?_;(simp;omega);rintro e w1 ⟨rfl,h⟩))
    all_goals
     go_wp2;go_ret3
     exact⟨g.out,(((aN _ w).alloc (aM _) _).drew).trans (h.mono (by simp))⟩
   ·have n:Hid ((t.data.toList.take (k+1)).all AY=true):=by show _=_;rw[LL t k l,b.out,c];rfl
    clear a c;go_wp2_with (go_at_call 247;refine f.mono ?_;rintro e w' ⟨rfl,rfl⟩)
    go_round
    case rel=>exact⟨k+1,by omega,by go_num,n⟩
    case measure=>simp[intOf];omega
  ·have g:Hid (NR t (aF (aR #[aB (t.extract 0 k),aB (t.extract k t.size),.bool (decide (0<k))]))):=a k d b.out (bP (by omega));clear a;go_wp2
   go_region_held3 (fun _=>True) (first|trivial|exact bL)
    (first|(go_at_call 227;refine(Kf (t.extract 0 k) _ ?_).mono ?_;(simp;omega);rintro e w1 ⟨rfl,h⟩))
   all_goals
    go_wp2;go_ret3
    exact⟨g.out,(((aN _ w).alloc (aM _) _).drew).trans (h.mono (by simp))⟩
theorem Adp(L:List UInt8)(c:UInt8)(r:List UInt8)(i:L=c::r)(j:c.toNat≠34):Ll L=match qB L with|none=>aA|some p=>(Ll (L.drop p.2)).map (fun q=>(p.1::q.1,q.2+p.2)):=by
 subst i;rw[ET,if_neg j];by_cases f:BO c=true
 ·have:=DH f;rw[if_neg (by omega),if_pos (by omega)];simp[qB,f]
 ·have d:BO c=false:=by simpa using f
  by_cases e:c.toNat=92
  ·rw[if_pos e]
   match r with
   | []=>simp[LN,qB,d,e]
   | [_]=>simp[LN,qB,d,e]
   | a::b::r' =>
    rw[LN];by_cases g:hexV a<16/\hexV b<16
    ·simp[qB,d,e,g]
    ·simp[qB,d,e,g]
  ·rw[if_neg e,if_neg (fun h=>by rw[EK (by omega)]at d;exact aU d)];simp[qB,d,e]
theorem Adq(L:List UInt8)(p:UInt8 × Nat)(h:qB L=aG p):1<=p.2/\p.2<=L.length:=by
 match L,h with
 | [c],h=>simp only[qB]at h;split at h <;> simp at h;subst h;simp
 | [c,_],h=>simp only[qB]at h;split at h <;> simp at h;subst h;simp
 | c::a::b::r,h =>
  simp only[qB]at h;split at h
  ·simp at h;subst h;simp
  ·split at h
   ·split at h
    ·simp at h;subst h;simp
    ·simp at h
   ·simp at h
theorem Aey(t:ByteArray)(i:Nat)(acc:List UInt8)(h:i<t.size)(a:t[i].toNat≠34):
  Uq t.data.toList i acc=match qB (t.data.toList.drop i) with|none=>aA|some p=>Uq t.data.toList (i+p.2) (acc++[p.1]):=by
 unfold Uq;rw[Adp (t.data.toList.drop i) _ _ (Bj t i h) a];cases qB (t.data.toList.drop i) with
 | none=>rfl
 | some p =>
  simp only[Option.map_map,bD];congr 1;funext q;simp;omega
theorem UN(t:ByteArray)(b:0<t.size)(c:t[0].toNat=34)(x:List UInt8)(n:Nat)(h:Uq t.data.toList 1 []=aG (x,n)):
  NR t (aF (aR #[aB ⟨x.toArray⟩,aB (t.extract n t.size),.bool true])):=by
 refine⟨_,_,_,rfl,b9 ⟨x,n,?_,rfl,rfl,rfl⟩⟩;rw[Fy t b,CW,if_pos c];unfold Uq at h;cases a:Ll (t.data.toList.drop 1) with
 | none=>rw[a]at h;simp at h
 | some p=>rw[a]at h;simp at h;obtain⟨rfl,rfl⟩:=h;simp;omega
theorem NS(t:ByteArray)(c:0<t.size)(d:t[0].toNat=34)(h:Uq t.data.toList 1 []=aA)(a b:ByteArray):
  NR t (aF (aR #[aB a,aB b,.bool false])):=by
 refine⟨_,_,_,rfl,bP ⟨?_,rfl⟩⟩;rw[Fy t c,CW,if_pos d];unfold Uq at h;cases e:Ll (t.data.toList.drop 1) with
 | none=>rfl
 | some p=>rw[e]at h;simp at h
theorem NT(t:ByteArray)(w:World)(B:0<t.size)(c:t[0].toNat=34)(M:t.size<=1048576):
  Calls prog 332 #[aP #[],aB t] w fun e w'=>NR t e/\Below w.heap.size w w':=by
 obtain⟨i0,E,F,G,H⟩:=bH Ac3;have m:∀x n,Hid (Uq t.data.toList 1 []=aG (x,n))->Hid (NR t (aF (aR #[aB ⟨x.toArray⟩,aB (t.extract n t.size),.bool true]))):=fun x n h=>UN t B c x n h
 have j:Hid (Uq t.data.toList 1 []=aA)->∀a b,Hid (NR t (aF (aR #[aB a,aB b,.bool false]))):=fun h a b=>NS t B c h a b
 clear c;go_enter func332,ntmps332;go_wp2;go_loopw [7,8] (fun v i wr=>∃(k:Nat) (acc:List UInt8),k<=t.size/\acc.length<=k/\i=.int .i64 k/\wr.ownsRow w.heap.size 5 1 v acc.length (aS acc)/\Below w.heap.size w wr/\Hid (Uq t.data.toList k acc=Uq t.data.toList 1 [])) (fun _ i _=>t.size-(intOf i).toNat)
 case atStart=>exact⟨1,[],by omega,by simp,rfl,aQ _ _ _ _,(aN _ _).alloc (aM _) _,rfl⟩
 case round =>
  obtain⟨k,acc,C,N,rfl,s,o,d⟩:=hrel;have O:=o.size;by_cases y:k<t.size
  ·by_cases c:t[k].toNat=34
   ·have I:((t[k].toNat:Int) != 34)=false:=by rw[bne_eq_false_iff_eq];omega
    have q:Hid _:=m acc (k+1) (by show _=_;rw[<-d.out];exact VI t k acc y c);clear m j d c;have P:=fun n=>FJ (wr.drewN n) _ _ _ _ (Ws s n)
    have Q:¬t.size<=k:=by omega
    go_wp2;go_quiet (fail)
    go_wp2;go_ret3
    exact⟨q.out,below_drewN o _⟩
   ·have I:((t[k].toNat:Int) != 34)=true:=by rw[bne_iff_ne];omega
    have l:=Aey t k acc y c;have f:=fun W=>MK (t.extract k t.size) W (by simp;omega) (by simp;omega)
    rw[DC]at f;have z:=Adq (t.data.toList.drop k);clear c;cases r:qB (t.data.toList.drop k) with
    | none =>
     rw[r]at l f;simp only[qV]at f;have q:=j (by show _=_;rw[<-d.out];exact l);clear m j d l z r;go_wp2_with (go_at_call 333;refine(f _).mono ?_;rintro e w' ⟨rfl,rfl⟩)
     go_ret3
     exact⟨q _ _,o⟩
    | some p =>
     obtain⟨b,n⟩:=p;rw[r]at l f;simp only[qV]at f;have A:=z _ r;have J:Hid (Uq t.data.toList (k+n) (acc++[b])=Uq t.data.toList 1 []):=by show _=_;rw[<-d.out];exact l.symm
     clear m j d l z r;have R:((n:Int)==0)=false:=by rw[beq_eq_false_iff_ne];omega
     have S:n<=t.size-k:=by have:=A.2;simpa using this
     have T:=A.1;clear A;go_wp2_with (first|(go_at_call 333;refine(f _).mono ?_;rintro e wr ⟨rfl,rfl⟩)|(at_builtin;refine aL _ rfl _ _ 22 rfl w.heap.size 5 i0 (.int .u8 0) 1 1 underlying22 E F G H rfl (by decide) _ acc.length _ rfl (s.alloc _) ⟨wr.heap.size,0,aA⟩ 1 1 [.int .u8 (b.toNat:Int)] rfl rfl (Kx wr _ 5) ?c2 (by decide) ?c3 ?c4 ?c5 (wr.heap.size+1) (by simp) ?_))
     case c2=>intro u D;simp at D;subst D;rfl
     case c3=>unfold bG;omega
     case c4=>omega
     case c5=>simp;omega
     intro g U w1 K L V X;go_wp2;go_roundw;case rel =>
      refine⟨k+n,acc++[b],by omega,by simp;omega,by go_num,?_,(o.alloc (by omega) _).grown L (by simp;omega) (fun k C=>(s.lt k C).1),J⟩;rw[aX,aE];exact K
     case measure=>simp[intOf];omega
  ·have q:=j (by show _=_;rw[<-d.out];exact Yi t k acc y);clear m j d;go_wp2;go_ret3
   exact⟨q _ _,o⟩
variable {w wr:World}{acc:List (List UInt8)}{ao:Option Addr}{cs:Array Value}
def Lr(R:Option (List (List UInt8)))(w:World)(e:Ending)(w':World):Prop :=
 ∃v,e=aF (aP #[v,.bool R.isNone])/\w'.ownsRow w.heap.size 9 1 v (R.getD []).length (strs (R.getD []))/\Below w.heap.size w w'
def Abo:Value->Nat
 | aB s=>s.size
 | _=>0
theorem ML(t:ByteArray)(w:World):Calls prog 255 #[aB t,aB ⟨#[32]⟩] w fun e w'=>e=aF (aB ⟨(t.data.toList.dropWhile (fun c=>c==32)).toArray⟩)/\w'=w :=
 strings_TrimLeft_one t 32 (by decide) w
theorem SG(t:ByteArray)(w:World)(b:0<t.size)(a:t[0].toNat=34)(c:t.size<=1048576):Calls prog 256 #[aB t] w fun e w'=>e=aF (.iface 327 (aP #[]))/\w'=w:=by
 have d:(0:Int)<(t.size:Int):=by omega
 have h:((t[0].toNat:Int)==34)=true:=by rw[beq_iff_eq];omega
 clear a;go_enter func256,ntmps256;go_wp2;go_ret;exact⟨rfl,rfl⟩
theorem SH(t:ByteArray)(w:World)(b:0<t.size)(a:t[0].toNat≠34)(c:t.size<=1048576):Calls prog 256 #[aB t] w fun e w'=>e=aF (.iface 328 (aP #[]))/\w'=w:=by
 have d:(0:Int)<(t.size:Int):=by omega
 have h:((t[0].toNat:Int)==34)=false:=by rw[beq_eq_false_iff_ne];omega
 clear a;go_enter func256,ntmps256;go_wp2;go_ret;exact⟨rfl,rfl⟩
theorem Ki(s:ByteArray)(a:s.size<=1048576):(⟨(s.data.toList.dropWhile (fun c=>c==32)).toArray⟩:ByteArray).size<=1048576:=by
 have h:(s.data.toList.dropWhile (fun c=>c==32)).length<=s.data.toList.length:=(bJ _).length_le;show (s.data.toList.dropWhile (fun c=>c==32)).toArray.size<=_
 have b:s.data.toList.length=s.size:=by simp
 rw[bN];omega
theorem SI(s:ByteArray):(⟨(s.data.toList.dropWhile (fun c=>c==32)).toArray⟩:ByteArray).size<=s.size:=by
 have h:(s.data.toList.dropWhile (fun c=>c==32)).length<=s.data.toList.length:=(bJ _).length_le;show (s.data.toList.dropWhile (fun c=>c==32)).toArray.size<=_
 have a:s.data.toList.length=s.size:=by simp
 rw[bN];omega
theorem Kj(s:ByteArray):∀h:0<(⟨(s.data.toList.dropWhile (fun c=>c==32)).toArray⟩:ByteArray).size,(⟨(s.data.toList.dropWhile (fun c=>c==32)).toArray⟩:ByteArray)[0].toNat≠32:=by
 intro h;have a:∀b,(fun c:UInt8=>c==32) ((s.data.toList.dropWhile (fun c=>c==32)).head b)=false:=fun b=>List.head_dropWhile_not _ b
 generalize s.data.toList.dropWhile (fun c=>c==32)=l at *
 match l,h,a with
 | c::r,h,a =>
  have:=a (by simp);simp at this;show c.toNat≠32
  intro d;exact this (UInt8.toNat_inj.1 d)
theorem J7{T:TypeId}{R:Option (List (List UInt8))}{cap:Nat}(a:R=aG acc)(b:wr.ownsRow (w.heap.size+1) 9 1 (aC ao acc.length cap) acc.length (strs acc))
  (c:Below (w.heap.size+1) (w.alloc (aK cs T)) wr) (x y:Value):Lr R w (aF (aP #[aC ao acc.length cap,.bool false])) ((wr.setCell ⟨w.heap.size,0,aA⟩ x).setCell ⟨w.heap.size,1,aA⟩ y):=by
 subst a;exact⟨_,rfl,C3 (Bo (Bo b ⟨w.heap.size,0,aA⟩ (bV _) x) ⟨w.heap.size,1,aA⟩ (bV _) y) (by omega),((((aN _ w).alloc (aM _) _).trans (c.mono (by omega))).setCell (by simp) _).setCell (by simp) _⟩
theorem CA{T:TypeId}{R:Option (List (List UInt8))}(a:R=aA)
  (b:Below (w.heap.size+1) (w.alloc (aK cs T)) wr) (x y:Value):Lr R w (aF (aP #[aC aA 0 0,.bool true])) ((wr.setCell ⟨w.heap.size,0,aA⟩ x).setCell ⟨w.heap.size,1,aA⟩ y):=by
 subst a;exact⟨_,rfl,aQ _ _ _ _,((((aN _ w).alloc (aM _) _).trans (b.mono (by omega))).setCell (by simp) _).setCell (by simp) _⟩
theorem SJ(t:ByteArray)(a:0<t.size):t.toList.isEmpty=false:=by
 rw[bE,Fy t a];rfl
theorem Zf(w : World): (method 493 327 (aP #[]) "loop.example/wharfsheet/impl.scan").run prog w = .ok (332, aP #[]) w := by kernel_rfl
theorem Zg(w : World): (method 493 328 (aP #[]) "loop.example/wharfsheet/impl.scan").run prog w = .ok (334, aP #[]) w := by kernel_rfl
theorem NU(s:ByteArray)(w:World)(aq:s.size<=1048576):Calls prog 231 #[aB s] w fun e w'=>Lr (cutL s.data.toList) w e w':=by
 obtain⟨i0,al,am,an,ap⟩:=bH Jc;have ar:Hid (Ih [] s.data.toList (cutL s.data.toList)):=Ih.start _;generalize cutL s.data.toList=R at *;go_enter func231,ntmps231;go_wp2_with (go_at_call 255;refine(ML s _).mono ?_;rintro e w0 ⟨rfl,rfl⟩)
 go_loopw [3,4] (fun v r wr=>∃(acc:List (List UInt8)) (t:ByteArray) (ao:Option Addr) (V:Nat),acc.length<=8/\t.size<=1048576/\r=aB t/\v=aC ao acc.length V/\wr.ownsRow (w.heap.size+1) 9 1 v acc.length (strs acc)/\Below (w.heap.size+1) (w.alloc (aK #[aC aA 0 0,.bool false] 124)) wr/\Hid (Ih acc t.data.toList R)/\Hid (∀h:0<t.size,t[0].toNat≠32)) (fun _ r _=>Abo r)
 case atStart=>exact⟨[],_,aA,0,by simp,Ki s aq,rfl,rfl,aQ _ _ _ _,aN _ _,ar.out.trim,Kj s⟩
 case round =>
  obtain⟨acc,t,ao,V,a4,W,rfl,rfl,G,y,o,E⟩:=hrel;have Z:=y.size;simp only[World.size_alloc]at Z;have H:wr.cell? ⟨w.heap.size,0,aA⟩=aG (aC aA 0 0):=by rw[y.cell (by simp)];simp
  have I:wr.cell? ⟨w.heap.size,1,aA⟩=aG (.bool false):=by rw[y.cell (by simp)];simp
  have X:wr.frozen? ⟨w.heap.size,0,aA⟩=false:=by rw[y.frozen (by simp)];simp
  have Y:wr.frozen? ⟨w.heap.size,1,aA⟩=false:=by rw[y.frozen (by simp)];simp
  by_cases p:0<t.size
  ·have a5:(0:Int)<(t.size:Int):=by omega
   have a6:t.toList.isEmpty=false:=SJ t p;by_cases q:t[0].toNat=35
   ·have au:((t[0].toNat:Int) != 35)=false:=by rw[bne_eq_false_iff_eq];omega
    have f:Hid (R=aG acc):=by
     have:=o.out;rw[Fy t p]at this;exact this.hash q
    clear o E q;go_wp2;exact aD (v:=aP #[aC ao acc.length V,.bool false]) (by simp[aI,results231,go_sem,H,I]) rfl (J7 f.out G y _ _)
   ·have au:((t[0].toNat:Int) != 35)=true:=by rw[bne_iff_ne];omega
    have B:=E.out p;by_cases J:t[0].toNat=34
    ·have aa:=Zf;go_wp2_with (go_at_call 256;refine(SG t _ p J W).mono ?_;rintro e wr ⟨rfl,rfl⟩)
     refine(NT t _ p J W).mono ?_;rintro e w1 ⟨⟨a,b,ok,rfl,ab⟩,j⟩;have av:=j.size;have z:=y.trans (j.mono Z);have K:=AI G j;have C:w1.cell? ⟨w.heap.size,0,aA⟩=aG (aC aA 0 0):=by rw[j.cell (by simp;omega)];exact H
     have D:w1.cell? ⟨w.heap.size,1,aA⟩=aG (.bool false):=by rw[j.cell (by simp;omega)];exact I
     have aw:w1.frozen? ⟨w.heap.size,0,aA⟩=false:=by rw[j.frozen (by simp;omega)];exact X
     have ax:w1.frozen? ⟨w.heap.size,1,aA⟩=false:=by rw[j.frozen (by simp;omega)];exact Y
     clear H I X Y y G j aa J;rcases ab with ⟨d,rfl⟩|⟨x,n,d,rfl,F,rfl⟩
     ·have f:Hid (R=aA):=by have h:=o.out;rw[Fy t p]at h d;exact h.none B q d
      clear o E B d q;go_wp2;exact aD (v:=aP #[aC aA 0 0,.bool true]) (by simp[aI,results231,go_sem,C,D]) rfl (CA f.out z _ _)
     ·have ay:=ID _ _ _ d;have L:(t.extract n t.size).size<=1048576:=by simp;omega
      have l:=Jy (t.extract n t.size) w1 L;rw[DC]at l;have az:a.size=x.length:=by rw[F];rfl
      have ac:Hid (a=⟨x.toArray⟩):=F;clear F;have m:¬(Dd (t.data.toList.drop n)=true/\x.length<=200/\acc.length<8)->Hid (R=aA):=fun M=>by have h:=o.out;rw[Fy t p]at h d M;exact h.no B q d M
      have A:(Dd (t.data.toList.drop n)=true/\x.length<=200/\acc.length<8)->Hid (Ih (acc++[x]) (t.data.toList.drop n) R):=fun N=>by have h:=o.out;have O:=Fy t p;rw[O]at h d N;rw[O];exact h.word B q d N
      clear o E B d q;by_cases i:Dd (t.data.toList.drop n)=true
      ·rw[i]at l;by_cases P:x.length<=200
       ·have ad:(a.size:Int)<=200:=by omega
        by_cases Q:acc.length<8
        ·have ae:((acc.length:Int)==8)=false:=by rw[beq_eq_false_iff_ne];omega
         have af:=A ⟨i,P,Q⟩;clear m A i;go_wp2_with (first|(go_at_call 257;refine l.mono ?_;rintro e w1 ⟨rfl,rfl⟩)|(at_builtin;refine aL _ rfl _ _ 52 rfl (w.heap.size+1) 9 i0 (aB ⟨#[]⟩) 1 16 underlying52 al am an ap rfl (by decide) _ acc.length _ rfl (K.alloc _) ⟨w1.heap.size,0,aA⟩ 1 1 [aB a] rfl rfl (Kx w1 _ 9) ?c2 (by decide) ?c3 ?c4 ?c5 (w1.heap.size+1) (by simp) ?_))
         case c2=>intro u S;simp at S;subst S;rfl
         case c3=>unfold bG;omega
         case c4=>omega
         case c5=>simp;omega
         intro g ag w2 T ah a0 a1;have ai:Below (w.heap.size+1) (w.alloc (aK #[aC aA 0 0,.bool false] 124)) w2:=(z.alloc (by omega) _).grown ah (by simp;omega) (fun k aj=>(K.lt k aj).1);go_wp2_with (go_at_call 255;refine(ML (t.extract n t.size) _).mono ?_;rintro e w2 ⟨rfl,rfl⟩)
         go_roundw;case rel =>
          refine⟨acc++[x],⟨(((t.data.toList.drop n).take (t.size-n)).dropWhile (fun c=>c==32)).toArray⟩,aG ⟨g,0,aA⟩,ag,by simp;omega,by rw[<-aH];exact Ki _ L,rfl,by rw[aE];rfl,?_,ai,?_,by rw[<-aH];exact Kj _⟩
          ·rw[DI,aE];rw[ac.out]at T;exact T
          ·have h:=af.out.trim;rw[<-DC]at h;rw[<-aH];exact h
         case measure =>
          have U:=SI (t.extract n t.size);have ak:(t.extract n t.size).size<t.size:=by
           simp only[bB];omega
          rw[aH]at U;exact bM U ak
        ·have ae:((acc.length:Int)==8)=true:=by rw[beq_iff_eq];omega
         have f:=m (fun h=>Q h.2.2);clear m A i;go_wp2_with (go_at_call 257;refine l.mono ?_;rintro e w1 ⟨rfl,rfl⟩)
         exact aD (v:=aP #[aC aA 0 0,.bool true]) (by simp[aI,results231,go_sem,C,D]) rfl (CA f.out z _ _)
       ·have ad:¬(a.size:Int)<=200:=by omega
        have a2:(200:Int)<(a.size:Int):=by omega
        have f:=m (fun h=>P h.2.1);clear m A i;go_wp2_with (go_at_call 257;refine l.mono ?_;rintro e w1 ⟨rfl,rfl⟩)
        exact aD (v:=aP #[aC aA 0 0,.bool true]) (by simp[aI,results231,go_sem,C,D]) rfl (CA f.out z _ _)
      ·have f:=m (fun h=>i h.1);rw[bR]at i;rw[i]at l;clear m A i;go_wp2_with (go_at_call 257;refine l.mono ?_;rintro e w1 ⟨rfl,rfl⟩)
       exact aD (v:=aP #[aC aA 0 0,.bool true]) (by simp[aI,results231,go_sem,C,D]) rfl (CA f.out z _ _)
    ·have aa:=Zg;go_wp2_with (go_at_call 256;refine(SH t _ p J W).mono ?_;rintro e wr ⟨rfl,rfl⟩)
     refine(P9 t _ p J W).mono ?_;rintro e w1 ⟨⟨a,b,ok,rfl,ab⟩,j⟩;have av:=j.size;have z:=y.trans (j.mono Z);have K:=AI G j;have C:w1.cell? ⟨w.heap.size,0,aA⟩=aG (aC aA 0 0):=by rw[j.cell (by simp;omega)];exact H
     have D:w1.cell? ⟨w.heap.size,1,aA⟩=aG (.bool false):=by rw[j.cell (by simp;omega)];exact I
     have aw:w1.frozen? ⟨w.heap.size,0,aA⟩=false:=by rw[j.frozen (by simp;omega)];exact X
     have ax:w1.frozen? ⟨w.heap.size,1,aA⟩=false:=by rw[j.frozen (by simp;omega)];exact Y
     clear H I X Y y G j aa J;rcases ab with ⟨d,rfl⟩|⟨x,n,d,rfl,F,rfl⟩
     ·have f:Hid (R=aA):=by have h:=o.out;rw[Fy t p]at h d;exact h.none B q d
      clear o E B d q;go_wp2;exact aD (v:=aP #[aC aA 0 0,.bool true]) (by simp[aI,results231,go_sem,C,D]) rfl (CA f.out z _ _)
     ·have ay:=ID _ _ _ d;have L:(t.extract n t.size).size<=1048576:=by simp;omega
      have l:=Jy (t.extract n t.size) w1 L;rw[DC]at l;have az:a.size=x.length:=by rw[F];rfl
      have ac:Hid (a=⟨x.toArray⟩):=F;clear F;have m:¬(Dd (t.data.toList.drop n)=true/\x.length<=200/\acc.length<8)->Hid (R=aA):=fun M=>by have h:=o.out;rw[Fy t p]at h d M;exact h.no B q d M
      have A:(Dd (t.data.toList.drop n)=true/\x.length<=200/\acc.length<8)->Hid (Ih (acc++[x]) (t.data.toList.drop n) R):=fun N=>by have h:=o.out;have O:=Fy t p;rw[O]at h d N;rw[O];exact h.word B q d N
      clear o E B d q;by_cases i:Dd (t.data.toList.drop n)=true
      ·rw[i]at l;by_cases P:x.length<=200
       ·have ad:(a.size:Int)<=200:=by omega
        by_cases Q:acc.length<8
        ·have ae:((acc.length:Int)==8)=false:=by rw[beq_eq_false_iff_ne];omega
         have af:=A ⟨i,P,Q⟩;clear m A i;go_wp2_with (first|(go_at_call 257;refine l.mono ?_;rintro e w1 ⟨rfl,rfl⟩)|(at_builtin;refine aL _ rfl _ _ 52 rfl (w.heap.size+1) 9 i0 (aB ⟨#[]⟩) 1 16 underlying52 al am an ap rfl (by decide) _ acc.length _ rfl (K.alloc _) ⟨w1.heap.size,0,aA⟩ 1 1 [aB a] rfl rfl (Kx w1 _ 9) ?c2 (by decide) ?c3 ?c4 ?c5 (w1.heap.size+1) (by simp) ?_))
         case c2=>intro u S;simp at S;subst S;rfl
         case c3=>unfold bG;omega
         case c4=>omega
         case c5=>simp;omega
         intro g ag w2 T ah a0 a1;have ai:Below (w.heap.size+1) (w.alloc (aK #[aC aA 0 0,.bool false] 124)) w2:=(z.alloc (by omega) _).grown ah (by simp;omega) (fun k aj=>(K.lt k aj).1);go_wp2_with (go_at_call 255;refine(ML (t.extract n t.size) _).mono ?_;rintro e w2 ⟨rfl,rfl⟩)
         go_roundw;case rel =>
          refine⟨acc++[x],⟨(((t.data.toList.drop n).take (t.size-n)).dropWhile (fun c=>c==32)).toArray⟩,aG ⟨g,0,aA⟩,ag,by simp;omega,by rw[<-aH];exact Ki _ L,rfl,by rw[aE];rfl,?_,ai,?_,by rw[<-aH];exact Kj _⟩
          ·rw[DI,aE];rw[ac.out]at T;exact T
          ·have h:=af.out.trim;rw[<-DC]at h;rw[<-aH];exact h
         case measure =>
          have U:=SI (t.extract n t.size);have ak:(t.extract n t.size).size<t.size:=by
           simp only[bB];omega
          rw[aH]at U;exact bM U ak
        ·have ae:((acc.length:Int)==8)=true:=by rw[beq_iff_eq];omega
         have f:=m (fun h=>Q h.2.2);clear m A i;go_wp2_with (go_at_call 257;refine l.mono ?_;rintro e w1 ⟨rfl,rfl⟩)
         exact aD (v:=aP #[aC aA 0 0,.bool true]) (by simp[aI,results231,go_sem,C,D]) rfl (CA f.out z _ _)
       ·have ad:¬(a.size:Int)<=200:=by omega
        have a2:(200:Int)<(a.size:Int):=by omega
        have f:=m (fun h=>P h.2.1);clear m A i;go_wp2_with (go_at_call 257;refine l.mono ?_;rintro e w1 ⟨rfl,rfl⟩)
        exact aD (v:=aP #[aC aA 0 0,.bool true]) (by simp[aI,results231,go_sem,C,D]) rfl (CA f.out z _ _)
      ·have f:=m (fun h=>i h.1);rw[bR]at i;rw[i]at l;clear m A i;go_wp2_with (go_at_call 257;refine l.mono ?_;rintro e w1 ⟨rfl,rfl⟩)
       exact aD (v:=aP #[aC aA 0 0,.bool true]) (by simp[aI,results231,go_sem,C,D]) rfl (CA f.out z _ _)
  ·have a3:t=⟨#[]⟩:=by apply aZ;exact aY (by show t.size=0;omega)
   subst a3;have f:Hid (R=aG acc):=Ih.nil o.out;clear o E p;go_wp2;exact aD (v:=aP #[aC ao acc.length V,.bool false]) (by simp[aI,results231,go_sem,H,I]) rfl (J7 f.out G y _ _)
def qR(o:Option (List UInt8 × Nat)):Value:=match o with|none=>aR #[aB ⟨#[]⟩,.int .i64 0] | some p=>aR #[aB ⟨p.1.toArray⟩,.int .i64 (p.2:Int)]
theorem Ie(n:Int)(a:0<=n)(h1:n<9223372036854775808):aW.wrap n=n:=by rw[IntKind.wrap_i64];omega
theorem Zv(a b:Nat)(c:a<16)(d:b<16):((aJ (16*a+b)).toNat:Int)=16*(a:Int)+(b:Int):=by
 rw[VU a b c d];omega
theorem Qt(s:ByteArray)(w:World)(ab:s.size<=1048576):Calls prog 153 #[aB s] w fun e w'=>e=aF (qR (Ll s.data.toList))/\Below w.heap.size w w':=by
 obtain⟨i0,C,D,E,F⟩:=bH Ac3;rw[<-Aar];generalize G:Uq s.data.toList 0 []=R;have H:Hid (Uq s.data.toList 0 []=R):=G;clear G;go_enter func153,ntmps153;go_wp2;go_loopw [4,5] (fun v i wr=>∃(k:Nat) (acc:List UInt8),k<=s.size/\acc.length<=k/\i=.int .i64 k/\wr.ownsRow w.heap.size 5 1 v acc.length (aS acc)/\Below w.heap.size w wr/\Hid (Uq s.data.toList k acc=R)) (fun _ i _=>s.size-(intOf i).toNat)
 case atStart=>exact⟨0,[],by omega,by simp,rfl,World.ownsRow_lit w #[] 0 (aM _) (by decide) rfl,(aN _ _).alloc (aM _) _,H⟩
 case round =>
  obtain⟨k,acc,x,ac,rfl,q,j,c⟩:=hrel;have ad:=j.size;clear H;by_cases r:k<s.size
  ·by_cases l:s[k].toNat=34
   ·have M:((s[k].toNat:Int)==34)=true:=by rw[beq_iff_eq];omega
    have d:Hid (R=aG (acc,k+1)):=by show _=_;rw[<-c.out];exact VI s k acc r l
    clear c l;have ae:=FJ wr _ _ _ _ q;go_wp2;go_ret2
    exact⟨Fo (by rw[d.out];rfl),j⟩
   ·have M:((s[k].toNat:Int)==34)=false:=by rw[beq_eq_false_iff_ne];omega
    by_cases m:s[k].toNat=92
    ·have N:((s[k].toNat:Int)==92)=true:=by rw[beq_iff_eq];omega
     by_cases I:k+2<s.size
     ·have O:¬(s.size:Int)<=(k:Int)+2:=by omega
      have f:=Ade s k acc I m;rw[c.out]at f;clear m l c;by_cases n:hexV (s[k+1]'(by omega))<16
      ·by_cases p:hexV (s[k+2]'(by omega))<16
       ·rw[if_pos ⟨n,p⟩]at f;have y:Hid (Uq s.data.toList (k+3) (acc++[aJ (16*hexV (s[k+1]'(by omega))+hexV (s[k+2]'(by omega)))])=R):=f.symm;have P:Hid _:=Zv _ _ n p;have J:=J0 n;have Q:=J0 p;clear f;generalize hexV (s[k+1]'(by omega))=a at *;generalize hexV (s[k+2]'(by omega))=b at *;go_wp2_with (go_at_call 214;refine(Ia _ _).mono ?_;rintro e wr ⟨rfl,rfl⟩)
        have S:aW.wrap ((k:Int)+1)=(k:Int)+1:=Ie _ (by omega) (by omega);have T:aW.wrap ((k:Int)+2)=(k:Int)+2:=Ie _ (by omega) (by omega);have U:aW.wrap (16*(a:Int))=16*(a:Int):=Ie _ (by omega) (by omega);have V:aW.wrap (16*(a:Int)+(b:Int))=16*(a:Int)+(b:Int):=Ie _ (by omega) (by omega);have W:IntKind.u8.wrap (16*(a:Int)+(b:Int))=16*(a:Int)+(b:Int):=wraps_u8 _ (by omega) (by omega);have af:(0:Int)<=(k:Int)+1:=by omega
        have ag:(k:Int)+1<(s.size:Int):=by omega
        have ah:(0:Int)<=(k:Int)+2:=by omega
        have ai:(k:Int)+2<(s.size:Int):=by omega
        have aj:((k:Int)+1).toNat=k+1:=by omega
        have t2:((k:Int)+2).toNat=k+2:=by omega
        go_region_held3 (fun _=>True) (first|trivial|exact bL)
         (first
           | (go_at_call 214;refine(Ia _ _).mono ?_;rintro e ak ⟨rfl,rfl⟩)
           | (refine step_append_lies _ (by rfl) _ _ _ (by rfl) w.heap.size 5 i0 (.int .u8 0) 1 1 underlying22 C D E F rfl (by decide) _ acc.length (aS acc) (by rfl) ((q.alloc _).drew) ⟨wr.heap.size,0,aA⟩ 1 1 [.int .u8 (16*(a:Int)+(b:Int))] (by rfl) (by rfl) (World.news_of_block (cs:=#[.int .u8 (16*(a:Int)+(b:Int))]) (t:=5) (fr:=(0,0)) (heap_alloc_new wr _)) (by simp[Value.oneCell']) (by omega) (by unfold bG;omega) (by omega) (by simp;omega) (wr.heap.size+1) (by simp) ?_;intro g X w1 z A Y Z))
        all_goals
         clear S T U V W;go_wp2;go_roundw;case rel =>
          refine⟨k+3,acc++[aJ (16*a+b)],by omega,by simp;omega,by go_num,?_,((j.alloc (by omega) _).drew).grown A (by simp;omega) (fun k x=>(q.lt k x).1),y⟩;rw[aX,aE,show aS [aJ (16*a+b)]=[.int .u8 (16*(a:Int)+(b:Int))] from by simp only[aS,List.map_cons,List.map_nil,P.out]];exact z
         case measure=>simp[intOf];omega
       ·rw[if_neg (fun h=>p h.2)]at f;have d:Hid (R=aA):=f;have J:=J0 n;have Q:=Lq p;clear f p;generalize hexV (s[k+1]'(by omega))=a at *;go_wp2_with (go_at_call 214;refine(Ia _ _).mono ?_;rintro e wr ⟨rfl,rfl⟩)
        go_ret2
        exact⟨Fo (by rw[d.out];rfl),j⟩
      ·rw[if_neg (fun h=>n h.1)]at f;have d:Hid (R=aA):=f;have J:=Lq n;clear f n;go_wp2_with (go_at_call 214;refine(Ia _ _).mono ?_;rintro e wr ⟨rfl,rfl⟩)
       go_ret2
       exact⟨Fo (by rw[d.out];rfl),j⟩
     ·have O:(s.size:Int)<=(k:Int)+2:=by omega
      have d:Hid (R=aA):=by show _=_;rw[<-c.out];exact Yk s k acc r m I
      clear c l m;go_wp2;go_ret2
      exact⟨Fo (by rw[d.out];rfl),j⟩
    ·have N:((s[k].toNat:Int)==92)=false:=by rw[beq_eq_false_iff_ne];omega
     cases o:BO s[k]
     ·have d:Hid (R=aA):=by show _=_;rw[<-c.out];exact Aas s k acc r o l m
      have B:(s[k].toNat:Int)<32\/(32<=(s[k].toNat:Int)/\126<(s[k].toNat:Int)):=by
       by_cases h:32<=s[k].toNat/\s[k].toNat<=126
       ·rw[EK (by omega)]at o;exact aU o
       ·omega
      clear c l m o;rcases B with K|⟨K,aa⟩
      all_goals
       go_wp2;go_ret2
       exact⟨Fo (by rw[d.out];rfl),j⟩
     ·have B:=DH o;have y:Hid (Uq s.data.toList (k+1) (acc++[s[k]])=R):=by show _=_;rw[<-c.out];exact(Yj s k acc r o).symm
      have K:32<=(s[k].toNat:Int):=by omega
      have aa:(s[k].toNat:Int)<=126:=by omega
      clear c l m o B;go_wp2_with (at_builtin;refine aL _ rfl _ _ 22 rfl w.heap.size 5 i0 (.int .u8 0) 1 1 underlying22 C D E F rfl (by decide) _ acc.length _ rfl (q.alloc _) ⟨wr.heap.size,0,aA⟩ 1 1 [.int .u8 (s[k].toNat:Int)] rfl rfl (Kx wr _ 5) ?c2 (by decide) ?c3 ?c4 ?c5 (wr.heap.size+1) (by simp) ?_)
      case c2=>intro u L;simp at L;subst L;rfl
      case c3=>unfold bG;omega
      case c4=>omega
      case c5=>simp;omega
      intro g X w1 z A Y Z;go_wp2;go_roundw;case rel =>
       refine⟨k+1,acc++[s[k]],by omega,by simp;omega,by go_num,?_,(j.alloc (by omega) _).grown A (by simp;omega) (fun k x=>(q.lt k x).1),y⟩;rw[aX,aE];exact z
      case measure=>simp[intOf];omega
  ·have d:Hid (R=aA):=by show _=_;rw[<-c.out];exact Yi s k acc r
   clear c;go_wp2;go_ret2
   exact⟨Fo (by rw[d.out];rfl),j⟩
theorem Ta(s:ByteArray)(m:Nat):Dd (s.data.toList.drop m)=decide (¬(m<s.size/\∀h:m<s.size,s[m].toNat≠32/\s[m].toNat≠35)):=by
 by_cases h:m<s.size
 ·rw[Bj s m h];by_cases h1:s[m].toNat=32\/s[m].toNat=35
  ·rw[Dd,decide_eq_true h1,decide_eq_true];intro a;have:=a.2 h;omega
  ·rw[Dd,decide_eq_false h1,decide_eq_false];simp only[Classical.not_not];exact⟨h,fun _=>by omega⟩
 ·rw[aO (by simp;omega),Dd,decide_eq_true];exact fun a=>h a.1
theorem OP(s:ByteArray)(m:Nat)(a:¬(m<s.size/\∀h:m<s.size,s[m].toNat≠32/\s[m].toNat≠35)):¬m<s.size\/(∃h:m<s.size,((s[m].toNat:Int) != 32)=false)\/(∃h:m<s.size,((s[m].toNat:Int) != 32)=true/\((s[m].toNat:Int) != 35)=false):=by
 by_cases h:m<s.size
 ·right;by_cases h1:s[m].toNat=32
  ·exact bP ⟨h,by rw[bne_eq_false_iff_eq];omega⟩
  ·refine b9 ⟨h,by rw[bne_iff_ne];omega,?_⟩;by_cases b:s[m].toNat=35
   ·rw[bne_eq_false_iff_eq];omega
   ·exact absurd ⟨h,fun _=>⟨h1,b⟩⟩ a
 ·exact bP h
theorem OQ(s:ByteArray)(k j:Nat):s.extract k j=⟨((s.data.toList.drop k).take (j-k)).toArray⟩:=by
 apply aZ;apply Array.toList_inj.1;rw[aH]
theorem Xx(s:ByteArray)(k j:Nat)(a:k<=j)(h:j<s.size):(s.data.toList.drop k).take (j+1-k)=(s.data.toList.drop k).take (j-k)++[s[j]]:=by
 rw[show j+1-k=(j-k)+1 from by omega,List.take_succ_eq_append_getElem (by simp;omega)];congr 2;simp only[List.getElem_drop];have:k+(j-k)=j:=by omega
 simp only[this];rfl
theorem Xy(s:ByteArray)(k j:Nat)(c:k<=j)(d:j<=s.size)(a:((s.data.toList.drop k).take (j-k)).all AY=true)(hend:j=s.size\/∃h:j<s.size,AY s[j]=false):(s.data.toList.drop k).takeWhile AY=(s.data.toList.drop k).take (j-k):=by
 have e:s.data.toList.drop k=(s.data.toList.drop k).take (j-k)++s.data.toList.drop j:=by
  have:=(bI (j-k) (s.data.toList.drop k)).symm;rw[bD,show k+(j-k)=j from by omega]at this;exact this
 have h1:∀x∈(s.data.toList.drop k).take (j-k),AY x=true:=aT.1 a
 conv=>lhs;rw[e]
 rw[bA h1];rcases hend with rfl|⟨h,b⟩
 ·rw[aO (l:=s.data.toList) (i:=s.size) (by simp)];simp
 ·rw[Bj s j h,bK];simp[b]
theorem Vd(c:UInt8)(r:List UInt8)(h:c.toNat=34):CW (c::r)=(Ll r).map (fun p=>(p.1,p.2+1)):=by rw[CW,if_pos h]
theorem OR(s:ByteArray)(k j:Nat)(h:k<s.size)(c:s[k].toNat≠34)(g:k<j)(d:j<=s.size)(b:((s.data.toList.drop k).take (j-k)).all AY=true)(hend:j=s.size\/∃h:j<s.size,AY s[j]=false):
  CW (s[k]::s.data.toList.drop (k+1))=aG ((s.data.toList.drop k).take (j-k),j-k):=by
 have e:=Xy s k j (by omega) d b hend;have a:¬AY s[k]=false:=by
  intro a;have f:s[k]∈(s.data.toList.drop k).take (j-k):=by
   rw[Bj s k h,show j-k=(j-k-1)+1 from by omega];simp
  have:=aT.1 b _ f;rw[a]at this;exact aU this
 rw[CW,if_neg c,if_neg a,<-Bj s k h,e];simp;omega
theorem Xz(s:ByteArray)(k:Nat)(h:k<s.size)(a:s[k].toNat≠34)(b:AY s[k]=false):CW (s[k]::s.data.toList.drop (k+1))=aA:=by
 rw[CW,if_neg a,if_pos b]
theorem MY(L:List UInt8)(k n:Nat)(c:UInt8)(r:List UInt8)(h:L.drop k=c::r):(c::r).drop n=L.drop (k+n):=by
 rw[<-h,bD]
theorem NY(s:ByteArray)(w:World)(bw:s.size<=1048576):Calls prog 82 #[aB s] w fun e w'=>Lr (cutL s.data.toList) w e w':=by
 obtain⟨i0,a8,a9,ba,bb⟩:=bH Jc;have bc:Hid (Ih [] s.data.toList (cutL s.data.toList)):=Ih.start _;generalize cutL s.data.toList=R at *;go_enter func82,ntmps82;go_wp2;go_loopw [5] (fun i wr=>∃(k:Nat) (acc:List (List UInt8)) (ao:Option Addr) (o:Nat),k<=s.size/\acc.length<=8/\i=.int .i64 k/\wr.heap[w.heap.size+1+1]?=aG (aK #[aC ao acc.length o,.bool false] 124 (0,0))/\wr.ownsRow (w.heap.size+1+1+1) 9 1 (aC ao acc.length o) acc.length (strs acc)/\Below (w.heap.size+1+1) ((w.alloc (aK #[aC aA 0 0,.bool false] 124)).alloc (aK #[aC aA 0 0,.bool true] 124)) wr/\Hid (Ih acc (s.data.toList.drop k) R)) (fun i _=>s.size-(intOf i).toNat)
 case atStart =>
  refine⟨0,[],aA,0,by omega,by simp,rfl,?_,aQ _ _ _ _,(aN _ _).alloc (by simp) _,bc⟩;have:=heap_alloc_new ((w.alloc (aK #[aC aA 0 0,.bool false] 124)).alloc (aK #[aC aA 0 0,.bool true] 124)) (aK #[aC aA 0 0,.bool false] 124);simpa using this
 case round =>
  obtain⟨k,acc,ao,o,ag,bf,rfl,M,N,z,f⟩:=hrel;clear bc;have bx:w.heap.size+1+1<wr.heap.size:=(Array.getElem?_eq_some_iff.1 M).1;have c20:wr.cell? ⟨w.heap.size+1+1,0,aA⟩=aG (aC ao acc.length o):=by rw[aV M];rfl
  have c21:wr.cell? ⟨w.heap.size+1+1,1,aA⟩=aG (.bool false):=by rw[aV M];rfl
  have E:wr.cell? ⟨w.heap.size,0,aA⟩=aG (aC aA 0 0):=by rw[z.cell (by simp;omega)];simp
  have F:wr.cell? ⟨w.heap.size,1,aA⟩=aG (.bool false):=by rw[z.cell (by simp;omega)];simp
  have aq:wr.frozen? ⟨w.heap.size,0,aA⟩=false:=by rw[z.frozen (by simp;omega)];simp
  have ar:wr.frozen? ⟨w.heap.size,1,aA⟩=false:=by rw[z.frozen (by simp;omega)];simp
  have au:wr.cell? ⟨w.heap.size+1,0,aA⟩=aG (aC aA 0 0):=by rw[z.cell (by simp)];simp
  have av:wr.cell? ⟨w.heap.size+1,1,aA⟩=aG (.bool true):=by rw[z.cell (by simp)];simp
  have G:Below (w.heap.size+1) (w.alloc (aK #[aC aA 0 0,.bool false] 124)) wr:=((aN _ (w.alloc (aK #[aC aA 0 0,.bool false] 124))).alloc (by simp) _).trans (z.mono (by omega));have aw:=C3 N (show w.heap.size+1<=w.heap.size+1+1+1 by omega);by_cases ah:k<s.size
  ·have hd:=Bj s k ah;rw[hd]at f;by_cases t:s[k].toNat=32
   ·have bg:((s[k].toNat:Int)==32)=true:=by rw[beq_iff_eq];omega
    have V:Hid (Ih acc (s.data.toList.drop (k+1)) R):=f.out.space t;clear f t hd;go_wp2;go_roundw;case rel=>exact⟨k+1,acc,ao,o,by omega,bf,by go_num,M,N,z,V⟩
    case measure=>simp[intOf];omega
   ·have bg:((s[k].toNat:Int)==32)=false:=by rw[beq_eq_false_iff_ne];omega
    by_cases A:s[k].toNat=35
    ·have bh:((s[k].toNat:Int)==35)=true:=by rw[beq_iff_eq];omega
     have c:Hid (R=aG acc):=f.out.hash A;clear f t hd A;go_wp2;exact aD (v:=aP #[aC ao acc.length o,.bool false]) (by simp[aI,results82,go_sem,E,F]) rfl (J7 c.out aw G _ _)
    ·have bh:((s[k].toNat:Int)==35)=false:=by rw[beq_eq_false_iff_ne];omega
     by_cases O:s[k].toNat=34
     ·have bi:((s[k].toNat:Int)==34)=true:=by rw[beq_iff_eq];omega
      have D:=Qt (s.extract (k+1) s.size) wr (by simp;omega);rw[DC]at D;have K:=Vd s[k] (s.data.toList.drop (k+1)) O;cases B:Ll (s.data.toList.drop (k+1)) with
      | none =>
       rw[B]at K D;have c:Hid (R=aA):=f.out.none t A K;simp only[qR]at D;clear f t hd A O K B;go_wp2_with (go_at_call 153;refine D.mono ?_)
       rintro e w1 ⟨rfl,b⟩;have W:w1.cell? ⟨w.heap.size,0,aA⟩=aG (aC aA 0 0):=by rw[b.cell (by simp;omega)];exact E
       have X:w1.cell? ⟨w.heap.size,1,aA⟩=aG (.bool false):=by rw[b.cell (by simp;omega)];exact F
       have bj:w1.frozen? ⟨w.heap.size,0,aA⟩=false:=by rw[b.frozen (by simp;omega)];exact aq
       have bk:w1.frozen? ⟨w.heap.size,1,aA⟩=false:=by rw[b.frozen (by simp;omega)];exact ar
       have bl:w1.cell? ⟨w.heap.size+1,0,aA⟩=aG (aC aA 0 0):=by rw[b.cell (by simp;omega)];exact au
       have bm:w1.cell? ⟨w.heap.size+1,1,aA⟩=aG (.bool true):=by rw[b.cell (by simp;omega)];exact av
       have Y:=G.trans (b.mono (show w.heap.size+1<=wr.heap.size by omega));clear D;go_wp2;exact aD (v:=aP #[aC aA 0 0,.bool true]) (by simp[aI,results82,go_sem,W,X]) rfl (CA c.out Y _ _)
      | some p =>
       obtain⟨x,n⟩:=p;rw[B]at K D;have ai:=VJ _ _ _ _ (aM _) B;rw[List.length_drop]at ai;have bz:n<=s.size-(k+1):=by have:=ai.2.1;simpa using this
       have b0:1<=n:=ai.1;simp only[Option.map_some]at K;have aj:(s[k]::s.data.toList.drop (k+1)).drop (n+1)=s.data.toList.drop (k+1+n):=by rw[MY _ k (n+1) _ _ hd,show k+(n+1)=k+1+n from by omega]
       have l:¬(Dd (s.data.toList.drop (k+1+n))=true/\x.length<=200/\acc.length<8)->Hid (R=aA):=fun ax=>f.out.no t A K (by rw[aj];exact ax)
       have y:(Dd (s.data.toList.drop (k+1+n))=true/\x.length<=200/\acc.length<8)->Hid (Ih (acc++[x]) (s.data.toList.drop (k+1+n)) R):=fun ay=>by have h:=f.out.word t A K (by rw[aj];exact ay);rw[aj]at h;exact h
       simp only[qR]at D;obtain⟨a,ak⟩:∃a:ByteArray,a=⟨x.toArray⟩:=⟨_,rfl⟩;rw[<-ak]at D;have bn:a.size=x.length:=by rw[ak];rfl
       have Z:Hid (a=⟨x.toArray⟩):=ak;have b1:((n:Int)==0)=false:=by rw[beq_eq_false_iff_ne];omega
       clear f t hd A O K B ai ak aj;go_wp2_with (go_at_call 153;refine D.mono ?_)
       rintro e w1 ⟨rfl,b⟩;have W:w1.cell? ⟨w.heap.size,0,aA⟩=aG (aC aA 0 0):=by rw[b.cell (by simp;omega)];exact E
       have X:w1.cell? ⟨w.heap.size,1,aA⟩=aG (.bool false):=by rw[b.cell (by simp;omega)];exact F
       have bj:w1.frozen? ⟨w.heap.size,0,aA⟩=false:=by rw[b.frozen (by simp;omega)];exact aq
       have bk:w1.frozen? ⟨w.heap.size,1,aA⟩=false:=by rw[b.frozen (by simp;omega)];exact ar
       have bl:w1.cell? ⟨w.heap.size+1,0,aA⟩=aG (aC aA 0 0):=by rw[b.cell (by simp;omega)];exact au
       have bm:w1.cell? ⟨w.heap.size+1,1,aA⟩=aG (.bool true):=by rw[b.cell (by simp;omega)];exact av
       have b2:w1.cell? ⟨w.heap.size+1+1,0,aA⟩=aG (aC ao acc.length o):=by rw[b.cell (by simp;omega)];exact c20
       have Y:=G.trans (b.mono (show w.heap.size+1<=wr.heap.size by omega));have bo:=z.trans (b.mono (show w.heap.size+1+1<=wr.heap.size by omega));have az:=AI N b;have bp:w1.heap[w.heap.size+1+1]?=aG (aK #[aC ao acc.length o,.bool false] 124 (0,0)):=by rw[b.block _ (by omega)];exact M
       have b3:=b.size;clear D E F aq ar au av c20 c21 M G z N aw b;have H:Dd (s.data.toList.drop (k+1+n))=decide (¬((k+1+n)<s.size/\∀h:(k+1+n)<s.size,s[(k+1+n)].toNat≠32/\s[(k+1+n)].toNat≠35)):=Ta s (k+1+n);by_cases I:(k+1+n)<s.size/\∀h:(k+1+n)<s.size,s[(k+1+n)].toNat≠32/\s[(k+1+n)].toNat≠35
       ·obtain⟨d,P⟩:=I;have a0:=P d;have c:=l (fun h=>by have h1:=h.1;rw[H,decide_eq_true_iff]at h1;exact h1 ⟨d,P⟩);have Q:((k:Int)+1+(n:Int):Int)<(s.size:Int):=by omega
        have r:((s[(k+1+n)].toNat:Int) != 32)=true:=by rw[bne_iff_ne];omega
        have S:((s[(k+1+n)].toNat:Int) != 35)=true:=by rw[bne_iff_ne];omega
        clear l y H P a0;go_wp2;exact aD (v:=aP #[aC aA 0 0,.bool true]) (by simp[aI,results82,go_sem,W,X]) rfl (CA c.out Y _ _)
       ·have T:¬(k+1+n)<s.size\/(∃h:(k+1+n)<s.size,((s[(k+1+n)].toNat:Int) != 32)=false)\/(∃h:(k+1+n)<s.size,((s[(k+1+n)].toNat:Int) != 32)=true/\((s[(k+1+n)].toNat:Int) != 35)=false):=OP s (k+1+n) I;have J:Dd (s.data.toList.drop (k+1+n))=true:=by rw[H,decide_eq_true_iff];exact I
        clear H I;by_cases aa:x.length<=200
        ·have a1:(a.size:Int)<=200:=by omega
         by_cases ab:acc.length<8
         ·have a2:(acc.length:Int)<8:=by omega
          have V:=y ⟨J,aa,ab⟩;clear l y J;rcases T with Q|⟨d,r⟩|⟨d,r,S⟩
          all_goals
           go_wp2_with (at_builtin;refine aL _ rfl _ _ 52 rfl (w.heap.size+1+1+1) 9 i0 (aB ⟨#[]⟩) 1 16 underlying52 a8 a9 ba bb rfl (by decide) _ acc.length _ rfl (az.alloc _) ⟨w1.heap.size,0,aA⟩ 1 1 [aB a] rfl rfl (Kx w1 _ 9) ?c2 (by decide) ?c3 ?c4 ?c5 (w1.heap.size+1) (by simp) ?_)
           case c2=>first|rfl|(intro u B;simp at B;subst B;rfl)
           case c3=>unfold bG;omega
           case c4=>omega
           case c5=>first|omega|(simp;omega)
           intro g a3 w2 ac ad bq br;have a4:(aG (w.heap.size+1+1):Option Nat)≠(bX ao acc.length o).ownBlock:=fun h=>by have:=(az.lt _ h.symm).1;omega
           have U:w2.heap[w.heap.size+1+1]?=aG (aK #[aC ao acc.length o,.bool false] 124 (0,0)):=by rw[ad.block _ (by simp;omega) a4,ca w1 _ _ (by omega)];exact bp
           have a5:Below (w.heap.size+1+1) ((w.alloc (aK #[aC aA 0 0,.bool false] 124)).alloc (aK #[aC aA 0 0,.bool true] 124)) w2:=(bo.alloc (by omega) _).grown ad (by simp;omega) (fun k ag=>by have:=(az.lt k ag).1;omega);have bs:w2.cell? ⟨w.heap.size+1+1,0,aA⟩=aG (aC ao acc.length o):=by rw[aV U];rfl
           have bt:w2.frozen? ⟨w.heap.size+1+1,0,aA⟩=false:=bO U 0;go_wp2;go_roundw;case rel =>
            refine⟨(k+1+n),acc++[x],aG ⟨g,0,aA⟩,a3,by omega,by simp;omega,by go_num,?_,Bo ?_ _ (by simp) _,a5.setCell (by simp) _,V⟩
            ·rw[bW _ _ _ _ _ _ U,aE];rfl
            ·rw[DI,aE];rw[Z.out]at ac;exact ac
           case measure=>simp[intOf];omega
         ·have a2:(8:Int)<=(acc.length:Int):=by omega
          have c:=l (fun h=>ab h.2.2);clear l y J;rcases T with Q|⟨d,r⟩|⟨d,r,S⟩
          all_goals
           go_wp2;exact aD (v:=aP #[aC aA 0 0,.bool true]) (by simp[aI,results82,go_sem,W,X]) rfl (CA c.out Y _ _)
        ·have a1:(200:Int)<(a.size:Int):=by omega
         have c:=l (fun h=>aa h.2.1);clear l y J;rcases T with Q|⟨d,r⟩|⟨d,r,S⟩
         all_goals
          go_wp2;exact aD (v:=aP #[aC aA 0 0,.bool true]) (by simp[aI,results82,go_sem,W,X]) rfl (CA c.out Y _ _)
     ·have bi:((s[k].toNat:Int)==34)=false:=by rw[beq_eq_false_iff_ne];omega
      have al:AY s[k]=false->Hid (R=aA):=fun C=>f.out.none t A (Xz s k ah O C)
      have am:∀j,k<j->j<=s.size->Hid (((s.data.toList.drop k).take (j-k)).all AY=true)->(j=s.size\/∃h:j<s.size,AY s[j]=false)->¬(Dd (s.data.toList.drop j)=true/\((s.data.toList.drop k).take (j-k)).length<=200/\acc.length<8)->Hid (R=aA):=fun j h1 a6 L hend ax=>f.out.no t A (OR s k j ah O h1 a6 L.out hend) (by rw[MY _ k (j-k) _ _ hd,show k+(j-k)=j from by omega];exact ax)
      have an:∀j,k<j->j<=s.size->Hid (((s.data.toList.drop k).take (j-k)).all AY=true)->(j=s.size\/∃h:j<s.size,AY s[j]=false)->(Dd (s.data.toList.drop j)=true/\((s.data.toList.drop k).take (j-k)).length<=200/\acc.length<8)->Hid (Ih (acc++[(s.data.toList.drop k).take (j-k)]) (s.data.toList.drop j) R):=fun j h1 a6 L hend ay=>by
       have e:(s[k]::s.data.toList.drop (k+1)).drop (j-k)=s.data.toList.drop j:=by rw[MY _ k (j-k) _ _ hd,show k+(j-k)=j from by omega]
       have h:=f.out.word t A (OR s k j ah O h1 a6 L.out hend) (by rw[e];exact ay);rw[e]at h;exact h
      clear f t hd A O;go_wp2;go_loop [7] (fun m=>∃j:Nat,k<=j/\j<=s.size/\m=.int .i64 j/\Hid (((s.data.toList.drop k).take (j-k)).all AY=true)) (fun m=>s.size-(intOf m).toNat)
      case atStart=>exact⟨k,aM _,by omega,rfl,by show _=_;simp⟩
      case round =>
       obtain⟨j,bu,bd,rfl,L⟩:=hrel;by_cases a7:∃h:j<s.size,AY s[j]=true
       ·obtain⟨ae,C⟩:=a7;have Z:Hid (((s.data.toList.drop k).take (j+1-k)).all AY=true):=by show _=_;rw[Xx s k j bu ae,List.all_append,L.out];simp[C]
        have q:=Gm s[j] wr;rw[C]at q;clear al am an C;go_wp2_with (go_at_call 154;refine q.mono ?_;rintro e wr ⟨rfl,rfl⟩)
        go_round
        case rel=>exact⟨j+1,by omega,by omega,by go_num,Z⟩
        case measure=>simp[intOf];omega
       ·have hend:j=s.size\/∃h:j<s.size,AY s[j]=false:=by
         by_cases ae:j<s.size
         ·exact b9 ⟨ae,by simpa using fun h=>a7 ⟨ae,h⟩⟩
         ·exact bP (by omega)
        clear a7;obtain⟨x,af⟩:∃x,x=(s.data.toList.drop k).take (j-k):=⟨_,rfl⟩;by_cases be:j=k
        ·have c:=al (by
          rcases hend with h|⟨h,C⟩
          ·omega
          ·subst be;exact C)
         have bv:((j:Int)==(k:Int))=true:=by rw[beq_iff_eq];omega
         have ae:j<s.size:=by omega
         have q:=Gm s[j] wr;have ap:AY s[j]=false:=by
          rcases hend with h|⟨h,C⟩
          ·omega
          ·exact C
         rw[ap]at q;clear al am an hend ap af be;go_wp2_with (go_at_call 154;refine q.mono ?_;rintro e wr ⟨rfl,rfl⟩)
         exact aD (v:=aP #[aC aA 0 0,.bool true]) (by simp[aI,results82,go_sem,E,F]) rfl (CA c.out G _ _)
        ·have l:=am j (by omega) bd L hend;have y:=an j (by omega) bd L hend;rw[<-af]at l y;have bv:((j:Int)==(k:Int))=false:=by rw[beq_eq_false_iff_ne];omega
         have bn:(s.extract k j).size=x.length:=by rw[af,OQ];rfl
         have Z:Hid (s.extract k j=⟨x.toArray⟩):=by show _=_;rw[af];exact OQ s k j
         have q:∀h:j<s.size,Calls prog 154 #[.int .u8 (s[j].toNat:Int)] wr fun e w'=>e=aF (.bool false)/\w'=wr:=fun h=>by
          have q:=Gm s[j] wr;have ap:AY s[j]=false:=by
           rcases hend with b4|⟨_,C⟩
           ·omega
           ·exact C
          rw[ap]at q;exact q
         clear al am an L af hend;have H:Dd (s.data.toList.drop j)=decide (¬(j<s.size/\∀h:j<s.size,s[j].toNat≠32/\s[j].toNat≠35)):=Ta s j;by_cases I:j<s.size/\∀h:j<s.size,s[j].toNat≠32/\s[j].toNat≠35
         ·obtain⟨d,P⟩:=I;have a0:=P d;have c:=l (fun h=>by have h1:=h.1;rw[H,decide_eq_true_iff]at h1;exact h1 ⟨d,P⟩);have Q:((j:Int):Int)<(s.size:Int):=by omega
          have r:((s[j].toNat:Int) != 32)=true:=by rw[bne_iff_ne];omega
          have S:((s[j].toNat:Int) != 35)=true:=by rw[bne_iff_ne];omega
          clear l y H P a0;go_wp2_with (go_at_call 154;refine(q (by assumption)).mono ?_;rintro e wr ⟨rfl,rfl⟩)
          exact aD (v:=aP #[aC aA 0 0,.bool true]) (by simp[aI,results82,go_sem,E,F]) rfl (CA c.out G _ _)
         ·have T:¬j<s.size\/(∃h:j<s.size,((s[j].toNat:Int) != 32)=false)\/(∃h:j<s.size,((s[j].toNat:Int) != 32)=true/\((s[j].toNat:Int) != 35)=false):=OP s j I;have J:Dd (s.data.toList.drop j)=true:=by rw[H,decide_eq_true_iff];exact I
          clear H I;by_cases aa:x.length<=200
          ·have a1:((s.extract k j).size:Int)<=200:=by omega
           by_cases ab:acc.length<8
           ·have a2:(acc.length:Int)<8:=by omega
            have V:=y ⟨J,aa,ab⟩;clear l y J;rcases T with Q|⟨d,r⟩|⟨d,r,S⟩
            all_goals
             go_wp2_with (first|(go_at_call 154;refine(q (by assumption)).mono ?_;rintro e wr ⟨rfl,rfl⟩)|(at_builtin;refine aL _ rfl _ _ 52 rfl (w.heap.size+1+1+1) 9 i0 (aB ⟨#[]⟩) 1 16 underlying52 a8 a9 ba bb rfl (by decide) _ acc.length _ rfl (N.alloc _) ⟨wr.heap.size,0,aA⟩ 1 1 [aB (s.extract k j)] rfl rfl (Kx wr _ 9) ?c2 (by decide) ?c3 ?c4 ?c5 (wr.heap.size+1) (by simp) ?_))
             case c2=>first|rfl|(intro u B;simp at B;subst B;rfl)
             case c3=>unfold bG;omega
             case c4=>omega
             case c5=>first|omega|(simp;omega)
             intro g a3 w2 ac ad bq br;have a4:(aG (w.heap.size+1+1):Option Nat)≠(bX ao acc.length o).ownBlock:=fun h=>by have:=(N.lt _ h.symm).1;omega
             have U:w2.heap[w.heap.size+1+1]?=aG (aK #[aC ao acc.length o,.bool false] 124 (0,0)):=by rw[ad.block _ (by simp;omega) a4,ca wr _ _ (by omega)];exact M
             have a5:Below (w.heap.size+1+1) ((w.alloc (aK #[aC aA 0 0,.bool false] 124)).alloc (aK #[aC aA 0 0,.bool true] 124)) w2:=(z.alloc (by omega) _).grown ad (by simp;omega) (fun k ag=>by have:=(N.lt k ag).1;omega);have bs:w2.cell? ⟨w.heap.size+1+1,0,aA⟩=aG (aC ao acc.length o):=by rw[aV U];rfl
             have bt:w2.frozen? ⟨w.heap.size+1+1,0,aA⟩=false:=bO U 0;go_wp2_with (go_at_call 154;refine(q (by assumption)).mono ?_;rintro e wr ⟨rfl,rfl⟩)
             go_roundw;case rel =>
              refine⟨j,acc++[x],aG ⟨g,0,aA⟩,a3,by omega,by simp;omega,by go_num,?_,Bo ?_ _ (by simp) _,a5.setCell (by simp) _,V⟩
              ·rw[bW _ _ _ _ _ _ U,aE];rfl
              ·rw[DI,aE];rw[Z.out]at ac;exact ac
             case measure=>simp[intOf];omega
           ·have a2:(8:Int)<=(acc.length:Int):=by omega
            have c:=l (fun h=>ab h.2.2);clear l y J;rcases T with Q|⟨d,r⟩|⟨d,r,S⟩
            all_goals
             go_wp2_with (go_at_call 154;refine(q (by assumption)).mono ?_;rintro e wr ⟨rfl,rfl⟩)
             exact aD (v:=aP #[aC aA 0 0,.bool true]) (by simp[aI,results82,go_sem,E,F]) rfl (CA c.out G _ _)
          ·have a1:(200:Int)<((s.extract k j).size:Int):=by omega
           have c:=l (fun h=>aa h.2.1);clear l y J;rcases T with Q|⟨d,r⟩|⟨d,r,S⟩
           all_goals
            go_wp2_with (go_at_call 154;refine(q (by assumption)).mono ?_;rintro e wr ⟨rfl,rfl⟩)
            exact aD (v:=aP #[aC aA 0 0,.bool true]) (by simp[aI,results82,go_sem,E,F]) rfl (CA c.out G _ _)
  ·have c:Hid (R=aG acc):=by have h:=f.out;rw[aO (by simp;omega)]at h;exact Ih.nil h
   clear f;go_wp2;exact aD (v:=aP #[aC ao acc.length o,.bool false]) (by simp[aI,results82,go_sem,E,F]) rfl (J7 c.out aw G _ _)
