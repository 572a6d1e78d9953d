import Derived.Test.YtpdahhnjhggocaaGreatDoorMz10
import Derived.Test.YtpdahhnjhggocaaGreatDoorMz13
namespace Go.Proofs.YtpdahhnjhggocaaGreatDoor
open Go.RowKit
set_option maxHeartbeats 16000000
set_option maxRecDepth 100000
variable {w W:World}{cs:Array Value}{B:Nat}{v:Value}
theorem Al(w:World)(o:Obj):(w.alloc o).heap[w.heap.size]?=some o:=by
 show (w.heap.push o)[w.heap.size]?=some o
 rw[Array.getElem?_push_size]
theorem Cy(w:World)(o:Obj)(k:Nat)(h:k<w.heap.size):(w.alloc o).heap[k]?=w.heap[k]?:=by
 show (w.heap.push o)[k]?=_
 rw[Array.getElem?_push_lt h,Array.getElem?_eq_getElem h]
structure Adp(w W:World)(cs:Array Value):Prop where
 block:W.heap[w.heap.size]?=some (.cells cs 54 (0,0))
 below:Below w.heap.size w W
theorem Ag8{wr:World}{old:Array Value}(hb:Below w.heap.size w wr)(hz:wr.heap[w.heap.size]?=some (.cells old 54 (0,0)))(cs:Array Value):Adp w (wr.setRow w.heap.size cs) cs :=
 ⟨setRow_heap _ _ _ _ _ _ hz,⟨hb.os,hb.tape,hb.output,by rw[setRow_size];exact hb.size,fun k hk=>(setRow_other _ _ _ _ (by omega)).trans (hb.block k hk)⟩⟩
theorem Adp.cell(h:Adp w W cs)(j:Nat):W.cell? ⟨w.heap.size,j,none⟩=cs[j]?:=by
 unfold World.cell?;rw[h.block];rfl
def Adq(L:List Ce)(key:ByteArray)(e:Ending):Prop:=(Cp (L.map Ce.plain) key=none∧e=.returned (.tuple #[.agg #[.string ⟨#[]⟩,.slice none 0 0,.bool false,.slice none 0 0],.bool false]))∨∃ r∈L,Cp (L.map Ce.plain) key=some r.plain∧e=.returned (.tuple #[.agg #[.string r.key,r.va,.bool r.many,r.vd],.bool true])
theorem Td{L:List Ce}(key:ByteArray)(hr:Cm B w v L)(hl:L.length≤12):Calls Tryz.prog 93 #[v,.string key] w fun e w'=>Below w.heap.size w w'∧Adq L key e:=by
 have hr':=hr.rm;obtain⟨ao,cap,rfl,f1⟩:=Ai (show w.ownsRow B 54 4 v L.length (L.flatMap Ce.cells) from A8.head hr);generalize hn:L.length=n at *;go_enter Tryz.func93,Tryz.ntmps93;go_wp2;go_loopw [10] (fun i wr=>∃ j:Nat,j≤n∧i=.int .i64 (j:Int)∧Below (w.heap.size+1) (w.alloc (.cells #[.string ⟨#[]⟩,.slice none 0 0,.bool false,.slice none 0 0] 54)) wr∧Cz L key j) (fun i _=>n - (intOf i).toNat)
 case atStart=>exact⟨0,by omega,rfl,Below.refl _ _,Cz.zero _ _⟩
 case round =>
  obtain⟨j,hj,rfl,hbw,hA⟩:=hrel;have hb0:Below w.heap.size w wr:=((Below.refl w.heap.size w).alloc (Nat.le_refl _) _).trans (hbw.mono (by omega));have hz:wr.heap[w.heap.size]?=some (.cells #[.string ⟨#[]⟩,.slice none 0 0,.bool false,.slice none 0 0] 54 (0,0)):=by
   rw[hbw.block _ (by omega)];exact Al _ _
  by_cases hlt:j<n
  ·rcases f1 with f1 | ⟨g,rfl⟩
   ·omega
   obtain⟨D,r,T,rfl,hD⟩:=Br L j (by omega);have c0:=(hr'.below hb0).cell 0 (by decide);have c1:=(hr'.below hb0).cell 1 (by decide);have c2:=(hr'.below hb0).cell 2 (by decide);have c3:=(hr'.below hb0).cell 3 (by decide);have o1:=hr'.args;have o2:=hr'.defs;obtain⟨rk,va,ns,many,vd,ds⟩:=r;simp only[Ce.cells,hD,List.getElem?_cons_zero,List.getElem?_cons_succ,Nat.add_zero]at c0 c1 c2 c3 o1 o2;generalize hns:ns.length=p at o1;generalize hds:ds.length=q at o2;obtain⟨bo,ca,rfl,_⟩:=Ai o1;obtain⟨co,cb,rfl,_⟩:=Ai o2;subst hD;cases hk:(rk.toList == key.toList)
   ·have HA:=hA.succ hk;clear hA hr hr' o1 o2;go_wp2;go_roundw;case rel=>exact⟨D.length+1,by omega,by go_num,hbw.alloc (by have:=hbw.size;simp at this;omega) _,HA⟩
    case measure=>simp[intOf];omega
   ·have HA:=Aa (hA.hit hk);have hlw:w.heap.size<wr.heap.size:=by have:=hbw.size;simp at this;omega
    have hz':(wr.alloc (.cells #[.string rk,.slice bo p ca,.bool many,.slice co q cb] 54)).heap[w.heap.size]?=some (.cells #[.string ⟨#[]⟩,.slice none 0 0,.bool false,.slice none 0 0] 54 (0,0)):=by rw[Cy _ _ _ hlw];exact hz
    have hP:=Ag8 (hb0.alloc (Nat.le_of_lt hlw) (.cells #[.string rk,.slice bo p ca,.bool many,.slice co q cb] 54)) hz' #[.string rk,.slice bo p ca,.bool many,.slice co q cb];clear hA hr hr' o1 o2;go_wp2_with (with_reducible show wpList _ _ _ (Oper.mk _ (Op.store _ (Operand.tmp 4) _) _ _ _ _::_) _ _;refine wpList_store_row rfl 54 _ _ rfl w.heap.size #[.string rk,.slice bo p ca,.bool many,.slice co q cb] ?_ ?_ 54 _ hz' ?_ ?_ ?_ ?_)
    all_goals (first | rfl | kernel_rfl | skip)
    have z0:=hP.cell 0;have z1:=hP.cell 1;have z2:=hP.cell 2;have z3:=hP.cell 3;generalize World.setRow _ _ _=W at hP z0 z1 z2 z3 ⊢;simp only[List.getElem?_toArray,List.getElem?_cons_zero,List.getElem?_cons_succ]at z0 z1 z2 z3;exact bodyPost_ret (v:=.tuple #[.agg #[.string rk,.slice bo p ca,.bool many,.slice co q cb],.bool true]) (by simp[results,Tryz.results93,go_sem,z0,z1,z2,z3]) rfl ⟨hP.below,.inr ⟨_,List.mem_append_right _ (List.mem_cons_self ..),HA.out,rfl⟩⟩
  ·obtain rfl:j=n:=by omega
   have HA:=Aa (Cz.none (hn ▸ hA));clear hA hr hr';have hP:=Ag8 hb0 hz #[.string ⟨#[]⟩,.slice none 0 0,.bool false,.slice none 0 0];go_wp2_with (with_reducible show wpList _ _ _ (Oper.mk _ (Op.store _ (Operand.tmp 4) _) _ _ _ _::_) _ _;refine wpList_store_row rfl 54 _ _ rfl w.heap.size #[.string ⟨#[]⟩,.slice none 0 0,.bool false,.slice none 0 0] ?_ ?_ 54 _ hz ?_ ?_ ?_ ?_)
   all_goals (first | rfl | kernel_rfl | skip)
   have z0:=hP.cell 0;have z1:=hP.cell 1;have z2:=hP.cell 2;have z3:=hP.cell 3;generalize World.setRow _ _ _=W at hP z0 z1 z2 z3 ⊢;simp only[List.getElem?_toArray,List.getElem?_cons_zero,List.getElem?_cons_succ]at z0 z1 z2 z3;exact bodyPost_ret (v:=.tuple #[.agg #[.string ⟨#[]⟩,.slice none 0 0,.bool false,.slice none 0 0],.bool false]) (by simp[results,Tryz.results93,go_sem,z0,z1,z2,z3]) rfl ⟨hP.below,.inl ⟨HA.out,rfl⟩⟩
end Go.Proofs.YtpdahhnjhggocaaGreatDoor
