import Derived.Test.YtpdahhnjhggocaaGreatDoorMz4
import Derived.Test.YtpdahhnjhggocaaGreatDoorMz22
import Derived.Sort.OwnSorted
namespace Go.Proofs.YtpdahhnjhggocaaGreatDoor
open Go.RowKit
set_option maxHeartbeats 16000000
set_option maxRecDepth 100000
variable {α β:Type}{w:World}{g m B:Nat}{v:Value}
theorem Qu[Inhabited α](enc:α→List Value)(k:Nat)(hk:∀ x,(enc x).length=k)(zs:List α):(Sort.flatK enc k zs.toArray).toList=zs.flatMap enc:=by
 have hs:(Sort.flatK enc k zs.toArray).size=zs.length * k:=by simp
 apply List.ext_getElem?;intro t;by_cases ht:t<zs.length * k
 ·have k0:0<k:=by
   rcases Nat.eq_zero_or_pos k with h | h;· subst h;simp at ht
   ·exact h
  have hi:t / k<zs.length:=(Nat.div_lt_iff_lt_mul k0).2 ht;obtain⟨D,r,T,rfl,hD⟩:=Br zs (t / k) hi;have hm:=Nat.mod_lt t k0;have e:t=D.length * k+t % k:=by rw[hD,Nat.mul_comm];exact(Nat.div_add_mod t k).symm
  have h1:=Sort.get_flatK enc k (D++r::T).toArray t (by simpa using ht);rw[Array.getElem?_toList,Array.getElem?_eq_getElem (by rw[hs];exact ht)];rw[getElem!_pos _ t (by rw[hs];exact ht)]at h1;rw[h1,e,D4 enc k hk D T r (t % k) hm];have e2:(D.length * k+t % k) / k=D.length:=by rw[← e,hD]
  have e3:(D.length * k+t % k) % k=t % k:=by rw[← e]
  rw[e2,e3];have e4:(D++r::T).toArray[D.length]! = r:=by simp
  rw[e4,List.getElem?_eq_getElem (by rw[hk];exact hm),getElem!_pos _ _ (by rw[hk];exact hm)]
 ·rw[List.getElem?_eq_none (by rw[Array.length_toList,hs];omega),List.getElem?_eq_none (by rw[By enc k hk];omega)]
theorem Od[Inhabited α](enc:α→List Value)(k:Nat)(w:World)(blk off m:Nat)(d:Array α)(os:Array Obj):w.grownBy (sortWorldK enc k w blk off m d os) (some blk):=by
 refine⟨rfl,rfl,rfl,by simp[sortWorldK,Sort.putRowK],fun q hq hne=>?_⟩;have hne':blk≠q:=fun e=>hne (by rw[e])
 unfold sortWorldK Sort.putRowK;rw[Sort.heap_grow_old _ _ (by simpa using hq)];simp[Sort.putRow,Sort.mapBlock,Sort.ahead,Array.getElem?_modify,hne']
theorem Z5(cur F:Array Value)(h:F.size≤cur.size):(Sort.putCells id 0 F cur).toList.take F.size=F.toList:=by
 apply List.ext_getElem?;intro j;by_cases hj:j<F.size
 ·rw[List.getElem?_take_of_lt hj,Array.getElem?_toList];simp[Sort.putCells,hj,show j<cur.size by omega]
 ·rw[List.getElem?_take_eq_none (by omega),List.getElem?_eq_none (by simp;omega)]
theorem Z6[Inhabited α](enc:α→List Value)(k:Nat){cur:Array Value}{e:TypeId}{fr:Nat × Nat}(d:Array α)(os:Array Obj)(hb:w.heap[g]?=some (.cells cur e fr)):(sortWorldK enc k w g 0 m d os).heap[g]?=some (.cells (Sort.putCells id 0 (Sort.flatK enc k d) cur) e fr):=by
 have hg:g<w.heap.size:=(Array.getElem?_eq_some_iff.1 hb).1;unfold sortWorldK Sort.putRowK;rw[Sort.heap_grow_old _ _ (by simpa using hg)];simp[Sort.putRow,Sort.mapBlock,Sort.ahead,Array.getElem?_modify,hb,Sort.onCells]
structure Ait{β:Type}(cf:β→β→Int):Prop where
 irr:∀ x,¬ cf x x<0
 trans:∀ x y z,cf x y<0→cf y z<0→cf x z<0
 ntrans:∀ x y z,¬ cf x y<0→¬ cf y z<0→¬ cf x z<0
theorem Xz{ρ:Shelf.Ren}(SL:SlLaysF0.n6 Tryz.prog ρ)(k:Nat)(aE:∀ w,(isAgg (ρ.t 24)).run Tryz.prog w=.ok true w)(zE:∀ w,(Go.sizeOf (ρ.t 24)).run Tryz.prog w=.ok k w)(cells:β→List Value)(hk:∀ x,(cells x).length=k)(Good:β→Prop)(h1:∀ x,Good x→∀ v∈cells x,v.oneCell'=true)
  (cf:β→β→Int) (hO:Ait cf) (F:Nat) (cb:Array Value) (eg:∀ args w,(callFunc F args).run Tryz.prog w=.ok (.enter F args) w) {e:TypeId} {xs:List β} (hrow:w.ownsRow B e k v xs.length (xs.flatMap cells)) (hG:∀ x∈xs,Good x)
  (hcmp:∀ q,v.ownBlock=some q→∀ W,w.grownBy W (some q)→∀ x y,Good x→Good y→Calls Tryz.prog F (#[.agg (cells x).toArray,.agg (cells y).toArray]++cb) W fun e w'=>e=.returned (.int .i64 (cf x y))∧Bw W w') (hlen:xs.length≤1048577) :
  Calls Tryz.prog (ρ.f 6) #[v,.func (.func F) #[] cb] w fun e' w'=>e'=.returned (.tuple #[])∧∃ ys:List β,ys.Perm xs∧w'.ownsRow B e k v xs.length (ys.flatMap cells)∧(∀ i j:Nat,i<j→∀ a b,ys[i]?=some a→ys[j]?=some b→¬ cf b a<0)∧w.grownBy w' v.ownBlock:=by
 rcases hrow.2 with ⟨rfl,h0⟩ | ⟨g,cap,cur,rfl,hbase,hb,hc1,hc2,hc3,hc4⟩
 ·obtain rfl:xs=[]:=List.length_eq_zero_iff.1 h0;exact(AnyF.slices_SortFunc_none SL none 0 _ w).mono fun e' w' ⟨he,hw⟩=>⟨he,[],.refl _,by rw[hw];exact hrow,by simp,by rw[hw];exact World.grownBy.refl _ _⟩
 ·cases xs with
  | nil=>exact(AnyF.slices_SortFunc_none SL (some ⟨g,0,none⟩) cap _ w).mono fun e' w' ⟨he,hw⟩=>⟨he,[],.refl _,by rw[hw];exact hrow,by simp,by rw[hw];exact World.grownBy.refl _ _⟩
  | cons x0 xs0 =>
   generalize hxs:x0::xs0=xs at *;have hx0:Good x0:=hG x0 (by rw[← hxs];simp);clear hxs;letI:Inhabited { x:β // Good x }:=⟨⟨x0,hx0⟩⟩;obtain⟨zs,hzs⟩:∃ zs:List { x:β // Good x },zs.map Subtype.val=xs:=⟨xs.pmap Subtype.mk hG,by simp[List.map_pmap]⟩;have hkz:∀ z:{ x:β // Good x },(cells z.1).length=k:=fun z=>hk z.1
   have hflat:∀ l:List { x:β // Good x },l.flatMap (fun z=>cells z.1)=(l.map Subtype.val).flatMap cells:=fun l=>by rw[List.flatMap_map]
   have hsz:zs.toArray.size=xs.length:=by rw[← hzs];simp
   have hcs:xs.length * k≤cur.size:=by rw[hc3];exact Nat.mul_le_mul_right _ hc1
   have hH:Sort.HoldsK (fun z:{ x:β // Good x }=>cells z.1) k w g 0 zs.toArray:=by
    intro j hj;have hfl:=Qu (fun z:{ x:β // Good x }=>cells z.1) k hkz zs;rw[hflat,hzs]at hfl;have hj2:j<xs.length * k:=by rw[Sort.size_flatK,hsz]at hj;exact hj
    refine⟨?_,by simp[World.frozen?,hb]⟩;have h2:(cur.toList.take (xs.length * k))[j]?=(Sort.flatK (fun z:{ x:β // Good x }=>cells z.1) k zs.toArray).toList[j]?:=by rw[hc4,hfl]
    rw[List.getElem?_take_of_lt hj2,Array.getElem?_toList,Array.getElem?_toList,Array.getElem?_eq_getElem hj]at h2;rw[Nat.zero_add,getElem!_pos _ j hj];have:=Ab hb j;rw[this,h2];rfl
   have hblk:g<w.heap.size:=(Array.getElem?_eq_some_iff.1 hb).1;have hS:Sort.SWO (ltOf (fun x y:{ x:β // Good x }=>cf x.1 y.1)):=by
    refine⟨fun x=>?_,fun x y z hxy hyz=>?_,fun x y z hxy hyz=>?_⟩
    ·exact decide_eq_false (hO.irr x.1)
    ·exact decide_eq_true (hO.trans x.1 y.1 z.1 (of_decide_eq_true hxy) (of_decide_eq_true hyz))
    ·exact decide_eq_false (hO.ntrans x.1 y.1 z.1 (of_decide_eq_false hxy) (of_decide_eq_false hyz))
   have hC:CmpLays Tryz.prog F cb (fun z:{ x:β // Good x }=>cells z.1) k (fun x y=>cf x.1 y.1) g 0 zs.toArray.size w:=fun m os dk _ x y =>
    (hcmp g rfl _ (Od _ k w g 0 m dk os) x.1 y.1 x.2 y.2).mono fun e' w' ⟨he,hw⟩=>⟨he,hw.grow⟩
   have H:=AnyQ.slices_SortFunc SL k aE zE (fun z:{ x:β // Good x }=>cells z.1) hkz (fun z=>h1 z.1 z.2) (fun x y=>cf x.1 y.1) hS F cb g 0 cap zs.toArray w eg hC hH hblk (by rw[hsz];omega);rw[hsz]at H;refine H.mono ?_;rintro e' w' ⟨he,d',n,os,⟨hd1,_,hd3⟩,hd4,rfl⟩;rw[hsz]at hd1;have hperm:d'.toList.Perm zs:=by
    have h5:d'.extract 0 xs.length=d':=by rw[← hd1];exact Array.extract_size
    have h6:zs.toArray.extract 0 xs.length=zs.toArray:=by rw[← hsz];exact Array.extract_size
    rw[h5,h6]at hd3;simpa using hd3
   have hdl:d'.toList.toArray=d':=by simp
   refine⟨he,d'.toList.map Subtype.val,by rw[← hzs];exact hperm.map _,⟨?_,.inr ⟨g,cap,_,rfl,hbase,Z6 _ k d' os hb,hc1,hc2,by simp[Sort.putCells,hc3],?_⟩⟩,fun i j hij a b ha hb'=>?_,Od _ k w g 0 n d' os⟩
   ·rw[By _ k hk,List.length_map,Array.length_toList,hd1]
   ·have h7:=Qu (fun z:{ x:β // Good x }=>cells z.1) k hkz d'.toList;rw[hdl,hflat]at h7;have h8:=Z5 cur (Sort.flatK (fun z:{ x:β // Good x }=>cells z.1) k d') (by rw[Sort.size_flatK,hd1];exact hcs);rw[Sort.size_flatK,hd1,h7]at h8;exact h8
   ·have hj:j<d'.size:=by have:=(List.getElem?_eq_some_iff.1 hb').1;simpa using this
    have:=hd4 i j (Nat.zero_le _) hij (by rw[← hd1];exact hj);have hi:i<d'.size:=by omega
    rw[getElem!_pos d' j hj,getElem!_pos d' i hi]at this;have h9:=of_decide_eq_false this;rw[List.getElem?_map,Array.getElem?_toList,Array.getElem?_eq_getElem hi]at ha;rw[List.getElem?_map,Array.getElem?_toList,Array.getElem?_eq_getElem hj]at hb';simp only[Option.map_some,Option.some.injEq]at ha hb';rw[← ha,← hb'];exact h9
end Go.Proofs.YtpdahhnjhggocaaGreatDoor
