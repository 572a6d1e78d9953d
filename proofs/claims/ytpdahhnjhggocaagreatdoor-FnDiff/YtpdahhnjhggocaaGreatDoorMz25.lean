import Derived.Test.YtpdahhnjhggocaaGreatDoorMz22
import Derived.Shelf.Spec.SlicesGrow
namespace Go.Proofs.YtpdahhnjhggocaaGreatDoor
open Go.RowKit
set_option maxHeartbeats 16000000
set_option maxRecDepth 100000
variable {g:Nat}{v1 v2:Value}{w:World}
section
open Go.Shelf
def Aba(E:TypeId)(size n:Nat)(xs:List Value)(w:World)(e:Ending)(w':World):Prop:=∃ v,e=.returned v∧w'.ownsRow w.heap.size E size v n xs∧Below w.heap.size w w'
def Z2(E:TypeId)(size n1 n2:Nat)(xs1 xs2:List Value)(w0:World)(s i:Value)(wi:World):Prop:=∃ j:Nat,i=.int .i64 (j:Int)∧(j=0∧wi.ownsRow w0.heap.size E size s 0 []∨j=1∧wi.ownsRow w0.heap.size E size s n1 xs1∨j=2∧wi.ownsRow w0.heap.size E size s (n1+n2) (xs1++xs2))∧Below w0.heap.size w0 wi
def laysGrowL_ren:Go.Shelf.Ren:=⟨fun | 4=>168 | n=>n,fun | 22=>44 | 25=>115 | 20=>20 | n=>n,fun | n=>n⟩
theorem Su:Go.Proofs.Lays8.n4 Tryz.prog laysGrowL_ren:={
 mixed:=by kernel_rfl
 f4:=⟨Tryz.f168.name,by decide,Tryz.func168.trans (congrArg some (by kernel_rfl))⟩
 t0:=Tryz.underlying0
 a0:=Tryz.isAgg0
 z0:=Tryz.sizeOf0
 v0:=Tryz.zeroValue0
 t3:=Tryz.underlying3
 a3:=Tryz.isAgg3
 z3:=Tryz.sizeOf3
 v3:=Tryz.zeroValue3
 t4:=Tryz.underlying4
 a4:=Tryz.isAgg4
 z4:=Tryz.sizeOf4
 v4:=Tryz.zeroValue4
 t9:=Tryz.underlying9
 a9:=Tryz.isAgg9
 z9:=Tryz.sizeOf9
 v9:=Tryz.zeroValue9
 t20:=Tryz.underlying20
 a20:=Tryz.isAgg20
 z20:=Tryz.sizeOf20
 v20:=Tryz.zeroValue20
 t22:=Tryz.underlying44
 a22:=Tryz.isAgg44
 z22:=Tryz.sizeOf44
 v22:=Tryz.zeroValue44 }
theorem Aex(n:Nat)(w:World)(hn:n≤2000000):Calls Tryz.prog 168 #[.slice none 0 0,.int .i64 (n:Int)] w fun e w'=>Aba 115 2 0 [] w e w':=by
 by_cases h0:n=0
 ·subst h0;refine(Any8.slices_Grow_room Su none 0 0 0 w (by omega) (by omega) (by omega) (by omega)).mono ?_;rintro e w' ⟨rfl,rfl⟩;exact⟨_,rfl,World.ownsRow_nil _ _ _ _,Below.refl _ _⟩
 ·obtain⟨i0,hi,hz0,hz1,hz2⟩:=info_parts Ez;refine(Any8.slices_Grow_grow Su i0 _ hi hz0 (by rw[hz1];decide) none 0 0 n [] w (by omega) (by omega) (by rw[hz2];omega) (by omega) (by simp) (fun _=>rfl) (fun _ h=>by cases h)).mono ?_;rintro e w' ⟨rfl,rfl⟩;have hge:=grownCap_ge w (0+n) 0 (laysGrowL_ren.t 25);have hle:=grownCap_le_maxLen w (0+n) 0 (laysGrowL_ren.t 25) (by unfold maxLen;omega);refine⟨_,rfl,⟨by simp,.inr ⟨w.heap.size,_,_,rfl,Nat.le_refl _,Al _ _,Nat.zero_le _,hle,?_,by simp⟩⟩,?_⟩
  ·rw[Array.size_append,Array.size_append,size_zeroCells,size_zeroCells];generalize grownCap w (0+n) 0 (laysGrowL_ren.t 25)=cap at *;show 0+(0+n - 0) * 2+(cap - (0+n)) * 2=cap * 2
   omega
  ·exact(Below.refl w.heap.size w).drew.alloc (by simp) _
theorem Xy{n1 n2:Nat}{xs1 xs2:List Value}(ha:w.heap[g]?=some (.cells #[v1,v2] 44 (0,0)))(h1:An w v1 n1 2 xs1)(h2:An w v2 n2 2 xs2)(o1:∀ y∈xs1,y.oneCell'=true)(o2:∀ y∈xs2,y.oneCell'=true)(hn:n1+n2≤2000000):Calls Tryz.prog 112 #[.slice (some ⟨g,0,none⟩) 2 2] w fun e w'=>Aba 115 2 (n1+n2) (xs1++xs2) w e w':=by
 obtain⟨a1,c1,rfl⟩:=h1.form;obtain⟨a2,c2,rfl⟩:=h2.form;have k1:=Ab ha 0;have k2:=Ab ha 1;simp only[List.getElem?_toArray,List.getElem?_cons_zero,List.getElem?_cons_succ]at k1 k2;have H1:=Aa h1;have H2:=Aa h2;have HG:=Aex (n1+n2) w hn;obtain⟨i0,hi,hz0,hz1,hz2⟩:=info_parts Ez;clear h1 h2 ha;go_enter Tryz.func112,Tryz.ntmps112;go_wp2;go_loopw [3,11] (fun s i wr=>(∃ j m:Nat,i=.int .i64 (j:Int)∧s=.int .i64 (m:Int)∧(j=0∧m=0∨j=1∧m=n1∨j=2∧m=n1+n2))∧wr=w) (fun s i _=>2 - (intOf i).toNat)
 case atStart=>exact⟨⟨0,0,rfl,rfl,.inl ⟨rfl,rfl⟩⟩,rfl⟩
 case round =>
  obtain⟨⟨j,m,rfl,rfl,hjm⟩,hw⟩:=hrel;subst hw;rcases hjm with ⟨rfl,rfl⟩ | ⟨rfl,rfl⟩ | ⟨rfl,rfl⟩
  ·have q1:¬ ((n1:Int)<0):=by omega
   go_wp2;go_roundw;case rel=>exact⟨⟨1,n1,by go_num,by go_num,.inr (.inl ⟨rfl,rfl⟩)⟩,trivial⟩
   case measure=>simp[intOf]
  ·have q1:¬ ((m:Int)+(n2:Int)<0):=by omega
   have q2:wrap64 ((m:Int)+(n2:Int))=(m:Int)+(n2:Int):=by unfold wrap64;omega
   go_wp2;go_roundw;case rel=>exact⟨⟨2,m+n2,by go_num,by go_num,.inr (.inr ⟨rfl,rfl⟩)⟩,trivial⟩
   case measure=>simp[intOf]
  ·obtain⟨w0,hw0⟩:∃ w0,w0=wr:=⟨_,rfl⟩;subst hw0;go_wp2_with (go_at_call 168;refine HG.mono ?_)
   rintro e w2 ⟨v,rfl,hr,b2⟩;have HR:=Aa hr;clear HG hr;go_wp2;go_loopw [6,27] (fun s i wi=>Z2 115 2 n1 n2 xs1 xs2 w0 s i wi) (fun s i _=>2 - (intOf i).toNat)
   case atStart=>exact⟨0,rfl,.inl ⟨rfl,HR.out⟩,b2⟩
   case round =>
    obtain⟨j,rfl,hj,bi⟩:=hrel;have k3:=(bi.cell (World.block_lt_of_cell? _ _ k1)).trans k1;have k4:=(bi.cell (World.block_lt_of_cell? _ _ k2)).trans k2;have hbz:=bi.size;clear HR;rcases hj with ⟨rfl,hr⟩ | ⟨rfl,hr⟩ | ⟨rfl,hr⟩
    ·have hx:=H1.out.below bi;go_wp2_with (at_builtin;refine Be (by rfl) _ _ 44 (by rfl) w0.heap.size 115 i0 _ 2 40 Tryz.underlying44 hi hz0 hz1 hz2 rfl (by decide) _ 0 _ (by rfl) hr _ n1 _ (by rfl) hx o1 ?c3 ?c4 hbz ?_)
     case c3=>unfold maxLen;omega
     case c4=>omega
     intro ao cap W own hg hv;have HW:=Aa (show Z2 115 2 n1 n2 xs1 xs2 w0 (.slice ao (0+n1) cap) (.int .i64 ((1:Nat):Int)) W from⟨1,rfl,.inr (.inl ⟨rfl,by simpa using own⟩),bi.grown hg hbz (fun k hk=>(hr.lt k hk).1)⟩);clear own hg hv hr hx;go_wp2;go_roundw;case rel=>exact(by have:=HW.out;simpa using this)
     case measure=>simp[intOf]
    ·have hx:=H2.out.below bi;go_wp2_with (at_builtin;refine Be (by rfl) _ _ 44 (by rfl) w0.heap.size 115 i0 _ 2 40 Tryz.underlying44 hi hz0 hz1 hz2 rfl (by decide) _ n1 _ (by rfl) hr _ n2 _ (by rfl) hx o2 ?c3 ?c4 hbz ?_)
     case c3=>unfold maxLen;omega
     case c4=>omega
     intro ao cap W own hg hv;have HW:=Aa (show Z2 115 2 n1 n2 xs1 xs2 w0 (.slice ao (n1+n2) cap) (.int .i64 ((2:Nat):Int)) W from⟨2,rfl,.inr (.inr ⟨rfl,own⟩),bi.grown hg hbz (fun k hk=>(hr.lt k hk).1)⟩);clear own hg hv hr hx;go_wp2;go_roundw;case rel=>exact(by have:=HW.out;simpa using this)
     case measure=>simp[intOf]
    ·have HR2:=Aa hr;clear hr;go_wp2;go_ret;exact⟨_,rfl,HR2.out,bi⟩
end
end Go.Proofs.YtpdahhnjhggocaaGreatDoor
