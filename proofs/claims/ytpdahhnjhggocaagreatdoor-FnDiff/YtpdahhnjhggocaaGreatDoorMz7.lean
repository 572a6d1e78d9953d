import Derived.Test.YtpdahhnjhggocaaGreatDoorMz6
import Derived.Laws.Rows
import Derived.Deep.RegionLaw
namespace Go.Proofs.YtpdahhnjhggocaaGreatDoor
open Go.RowKit
set_option maxHeartbeats 16000000
set_option maxRecDepth 100000
variable {w w1 w' w3:World}{cs:Array Value}{ns:List Int}{many:Bool}{ao bo:Option Addr}{ca cb B n:Nat}{v:Value}{xs:List Value}
def Yy:List UInt8→List UInt8→List (List UInt8)
 | cur,[]=>[cur]
 | cur,c::r=>if c.toNat=32 then cur::Yy [] r else Yy (cur++[c]) r
theorem Ag6:(Tryz.prog.info? 3).map (fun i=>(i.zero,i.size,i.bytes))=some (some (.int .i64 0),1,8):=by kernel_rfl
def Adi(key:ByteArray)(ns:List Int)(many:Bool)(ds:List (List UInt8))(w:World)(e:Ending)(w':World):Prop :=
 ∃ ao ca bo cb,e=.returned (.agg #[.string key,.slice ao ns.length ca,.bool many,.slice bo ds.length cb]) ∧
  A8 w.heap.size w' [⟨.slice ao ns.length ca,3,1,ns.length,Dq ns⟩,⟨.slice bo ds.length cb,9,1,ds.length,strs ds⟩]∧Below w.heap.size w w'
theorem Wg{T:TypeId}{key:ByteArray}{ds:List (List UInt8)}(ha:w1.ownsRow (w.heap.size+1) 3 1 (.slice ao ns.length ca) ns.length (Dq ns))(hb:w1.ownsRow (w.heap.size+1) 9 1 (.slice bo ds.length cb) ds.length (strs ds))
  (hne:(Value.slice ao ns.length ca).ownBlock=none∨(Value.slice ao ns.length ca).ownBlock≠(Value.slice bo ds.length cb).ownBlock) (hB:Below (w.heap.size+1) (w.alloc (.cells cs T)) w1) (x0 x1 x2 x3:Value) :
  Adi key ns many ds w (.returned (.agg #[.string key,.slice ao ns.length ca,.bool many,.slice bo ds.length cb])) ((((w1.setCell ⟨w.heap.size,0,none⟩ x0).setCell ⟨w.heap.size,1,none⟩ x1).setCell ⟨w.heap.size,2,none⟩ x2).setCell ⟨w.heap.size,3,none⟩ x3):=by
 have four:∀ {e:TypeId} {v:Value} {n:Nat} {xs:List Value},w1.ownsRow (w.heap.size+1) e 1 v n xs→((((w1.setCell ⟨w.heap.size,0,none⟩ x0).setCell ⟨w.heap.size,1,none⟩ x1).setCell ⟨w.heap.size,2,none⟩ x2).setCell ⟨w.heap.size,3,none⟩ x3).ownsRow w.heap.size e 1 v n xs:=fun h =>
  Ec (Cl (Cl (Cl (Cl h ⟨w.heap.size,0,none⟩ (Nat.lt_succ_self _) x0) ⟨w.heap.size,1,none⟩ (Nat.lt_succ_self _) x1) ⟨w.heap.size,2,none⟩ (Nat.lt_succ_self _) x2) ⟨w.heap.size,3,none⟩ (Nat.lt_succ_self _) x3) (Nat.le_succ _)
 refine⟨ao,ca,bo,cb,rfl,⟨fun r hr=>?_,by simpa using hne⟩,?_⟩
 ·rcases List.mem_cons.1 hr with rfl | hr
  ·exact four ha
  ·rw[List.mem_singleton.1 hr];exact four hb
 ·exact((((((Below.refl _ w).alloc (Nat.le_refl _) _).trans (hB.mono (Nat.le_succ _))).setCell (by simp) _).setCell (by simp) _).setCell (by simp) _).setCell (by simp) _
theorem Yz(key:ByteArray)(ns:List Int)(h m:Nat)(w:World)(hm:ns.length=m)(h0:0<m)(hm2:m≤100)(hcell:∀ j u,(Dq ns)[j]?=some u→w.cell? ((⟨h,0,none⟩:Addr).add j)=some u):
  Calls Tryz.prog 118 #[.string key,.slice (some ⟨h,0,none⟩) m m] w fun e w'=>Adi key ns true [] w e w':=by
 obtain⟨i0,hi,hz0,hz1,hz2⟩:=info_parts Ag6;go_enter Tryz.func118,Tryz.ntmps118;have W1:Below w.heap.size w ((w.alloc (.cells #[.string ⟨#[]⟩,.slice none 0 0,.bool false,.slice none 0 0] 54)).alloc (.cells #[] 3)):=((Below.refl _ w).alloc (Nat.le_refl _) _).alloc (by simp) _;have hnew:∀ j u,(Dq ns)[j]?=some u→((w.alloc (.cells #[.string ⟨#[]⟩,.slice none 0 0,.bool false,.slice none 0 0] 54)).alloc (.cells #[] 3)).cell? ((⟨h,0,none⟩:Addr).add j)=some u:=fun j u hu=>by
  have hc:=hcell j u hu;rw[W1.cell (World.block_lt_of_cell? w _ hc)];exact hc
 have hown0:=World.ownsRow_lit (base:=w.heap.size+1) (e:=3) (size:=1) (w.alloc (.cells #[.string ⟨#[]⟩,.slice none 0 0,.bool false,.slice none 0 0] 54)) #[] 0 (by simp) (by decide) rfl;simp only[World.size_alloc]at hown0;go_wp2_with (at_builtin;refine wpList_append_lies _ rfl _ _ 51 rfl (w.heap.size+1) 3 i0 (.int .i64 0) 1 8 Tryz.underlying51 hi hz0 hz1 hz2 rfl (by decide) _ 0 [] rfl hown0 ⟨h,0,none⟩ m m (Dq ns) rfl (by rw[F7];omega) hnew ?c2 h0 ?c3 ?c4 ?c5 (w.heap.size+1+1) (by simp) ?_)
 case c2=>intro u hu;simp only[Dq,List.mem_map]at hu;obtain⟨z,_,rfl⟩:=hu;rfl
 case c3=>unfold maxLen;omega
 case c4=>omega
 case c5=>simp
 intro g cap w1 hown1 hgrow hat hlt1;have hB1:Below (w.heap.size+1) (w.alloc (.cells #[.string ⟨#[]⟩,.slice none 0 0,.bool false,.slice none 0 0] 54)) w1:=((Below.refl _ (w.alloc (.cells #[.string ⟨#[]⟩,.slice none 0 0,.bool false,.slice none 0 0] 54))).alloc (by simp) _).grown hgrow (by simp) (fun k hk=>(hown0.lt k hk).1);have hz:=hB1.size;simp only[World.size_alloc]at hz;have r0:w1.cell? ⟨w.heap.size,0,none⟩=some (.string ⟨#[]⟩):=by rw[hB1.cell (by simp)];simp
 have r1:w1.cell? ⟨w.heap.size,1,none⟩=some (.slice none 0 0):=by rw[hB1.cell (by simp)];simp
 have r2:w1.cell? ⟨w.heap.size,2,none⟩=some (.bool false):=by rw[hB1.cell (by simp)];simp
 have r3:w1.cell? ⟨w.heap.size,3,none⟩=some (.slice none 0 0):=by rw[hB1.cell (by simp)];simp
 have f0:w1.frozen? ⟨w.heap.size,0,none⟩=false:=by rw[hB1.frozen (by simp)];simp
 have f1:w1.frozen? ⟨w.heap.size,1,none⟩=false:=by rw[hB1.frozen (by simp)];simp
 have f2:w1.frozen? ⟨w.heap.size,2,none⟩=false:=by rw[hB1.frozen (by simp)];simp
 have f3:w1.frozen? ⟨w.heap.size,3,none⟩=false:=by rw[hB1.frozen (by simp)];simp
 clear W1 hnew hcell hgrow hat hown0;go_wp2;refine bodyPost_ret (v:=.agg #[.string key,.slice (some ⟨g,0,none⟩) m cap,.bool true,.slice none 0 0]) (by simp[results,Tryz.results118,go_sem,r0,r1,r2,r3]) rfl ?_;subst hm;exact Wg hown1 (World.ownsRow_nil _ _ _ _) (Or.inr (by simp[Value.ownBlock])) hB1 _ _ _ _
theorem Ag7{p:Addr}(o:Obj)(hc:w.cell? p=some v)(hf:w.frozen? p=false):(w.alloc o).drew.cell? p=some v∧(w.alloc o).drew.frozen? p=false:=by
 have hb:=World.block_lt_of_cell? w p hc;have h:=(((Below.refl w.heap.size w).alloc (Nat.le_refl _) o).drew);exact⟨(h.cell hb).trans hc,(h.frozen hb).trans hf⟩
theorem Aau{p:Addr}{row:Option Nat}(h:w.cell? p=some v∧w.frozen? p=false)(hg:w.grownBy w' row)(hne:some p.block≠row):w'.cell? p=some v∧w'.frozen? p=false:=by
 have hb:=World.block_lt_of_cell? w p h.1;exact⟨(hg.cell_far p hb hne).trans h.1,(hg.frozen_far p hb hne).trans h.2⟩
theorem Wh(cur:List UInt8)(c:UInt8)(r:List UInt8)(h:c.toNat≠32):Yy cur (c::r)=Yy (cur++[c]) r:=by rw[Yy,if_neg h]
theorem S0(cur:List UInt8)(c:UInt8)(r:List UInt8)(h:c.toNat=32):Yy cur (c::r)=cur::Yy [] r:=by rw[Yy,if_pos h]
theorem Wi(s:ByteArray)(k j:Nat):s.extract k j=⟨((s.data.toList.drop k).take (j - k)).toArray⟩:=by
 apply ByteArray.ext;apply Array.toList_inj.1;rw[Lib.extract_data]
theorem Adj(s:ByteArray)(k j:Nat)(hk:k≤j)(h:j<s.size):(s.data.toList.drop k).take (j+1 - k)=(s.data.toList.drop k).take (j - k)++[s[j]]:=by
 rw[show j+1 - k=(j - k)+1 from by omega,List.take_succ_eq_append_getElem (by simp;omega)];congr 2;simp only[List.getElem_drop];have:k+(j - k)=j:=by omega
 simp only[this];rfl
theorem Wj{wr:World}{o:Obj}{row:Option Nat}{a b c d:Value}{T:TypeId}(hb2:wr.heap[B]?=some (.cells #[a,b,c,d] T (0,0)))(hgr:(wr.alloc o).drew.grownBy w3 row)(hrow:∀ k,row=some k→B+1≤k)(hbw:Below B w1 wr)
 (hown3:w3.ownsRow (B+1) 9 1 v n xs) (u:Value) :
   (w3.setCell ⟨B,3,none⟩ u).heap[B]?=some (.cells #[a,b,c,u] T (0,0))∧(w3.setCell ⟨B,3,none⟩ u).ownsRow (B+1) 9 1 v n xs∧Below B w1 (w3.setCell ⟨B,3,none⟩ u):=by
  have hB:B<wr.heap.size:=(Array.getElem?_eq_some_iff.1 hb2).1;have h3:w3.heap[B]?=some (.cells #[a,b,c,d] T (0,0)):=by
   rw[hgr.block B (by simp;omega) (fun e=>by have:=hrow B e.symm;omega)];have:=(((Below.refl wr.heap.size wr).alloc (Nat.le_refl _) o).drew).block B hB;rw[this];exact hb2
  refine⟨?_,Cl hown3 _ (by simp) _,?_⟩
  ·exact heap_setCell_same w3 B 3 #[a,b,c,d] T u h3
  ·exact((((hbw.alloc (by omega) o).drew).grown hgr (by simp;omega) (fun k hk=>by have:=hrow k hk;omega))).setCell (by simp) _
theorem Abk(key value:ByteArray)(ns:List Int)(h m:Nat)(w:World)(hm:ns.length=m)(h0:0<m)(hm2:m≤100)(hv:value.size≤100)(hcell:∀ j u,(Dq ns)[j]?=some u→w.cell? ((⟨h,0,none⟩:Addr).add j)=some u):
  Calls Tryz.prog 117 #[.string key,.string value,.slice (some ⟨h,0,none⟩) m m] w fun e w'=>Adi key ns false (Yy [] value.data.toList) w e w':=by
 obtain⟨i0,hi,hz0,hz1,hz2⟩:=info_parts Ag6;obtain⟨j0,hj,hy0,hy1,hy2⟩:=info_parts Wa;have W1:Below w.heap.size w ((w.alloc (.cells #[.string ⟨#[]⟩,.slice none 0 0,.bool false,.slice none 0 0] 54)).alloc (.cells #[] 3)):=((Below.refl _ w).alloc (Nat.le_refl _) _).alloc (by simp) _;have hnew:∀ j u,(Dq ns)[j]?=some u→((w.alloc (.cells #[.string ⟨#[]⟩,.slice none 0 0,.bool false,.slice none 0 0] 54)).alloc (.cells #[] 3)).cell? ((⟨h,0,none⟩:Addr).add j)=some u:=fun j u hu=>by
  have hc:=hcell j u hu;rw[W1.cell (World.block_lt_of_cell? w _ hc)];exact hc
 have hown0:=World.ownsRow_lit (base:=w.heap.size+1) (e:=3) (size:=1) (w.alloc (.cells #[.string ⟨#[]⟩,.slice none 0 0,.bool false,.slice none 0 0] 54)) #[] 0 (by simp) (by decide) rfl;simp only[World.size_alloc]at hown0;obtain⟨T,hT⟩:∃ T,Yy [] value.data.toList=T:=⟨_,rfl⟩;have HT:Hid (Yy [] value.data.toList=T):=hT;rw[hT];clear hT;go_enter Tryz.func117,Tryz.ntmps117;go_wp2_with (at_builtin;refine wpList_append_lies _ rfl _ _ 51 rfl (w.heap.size+1) 3 i0 (.int .i64 0) 1 8 Tryz.underlying51 hi hz0 hz1 hz2 rfl (by decide) _ 0 [] rfl hown0 ⟨h,0,none⟩ m m (Dq ns) rfl (by rw[F7];omega) hnew ?c2 h0 ?c3 ?c4 ?c5 (w.heap.size+1+1) (by simp) ?_)
 case c2=>intro u hu;simp only[Dq,List.mem_map]at hu;obtain⟨z,_,rfl⟩:=hu;rfl
 case c3=>unfold maxLen;omega
 case c4=>omega
 case c5=>simp
 intro g cap w1 hown1 hgrow hat hlt1;have hB1:Below (w.heap.size+1) (w.alloc (.cells #[.string ⟨#[]⟩,.slice none 0 0,.bool false,.slice none 0 0] 54)) w1:=((Below.refl _ (w.alloc (.cells #[.string ⟨#[]⟩,.slice none 0 0,.bool false,.slice none 0 0] 54))).alloc (by simp) _).grown hgrow (by simp) (fun k hk=>(hown0.lt k hk).1);have hz:=hB1.size;simp only[World.size_alloc]at hz;clear W1 hnew hcell hgrow hat hown0;go_wp2;go_loopw [8,9] (fun x i wr=>∃(f k:Nat) (ws:List (List UInt8)) (bo:Option Addr) (cb:Nat),x=.int .i64 (f:Int)∧i=.int .i64 (k:Int)∧k≤value.size+1∧ws.length≤k∧f≤k∧wr.heap[w1.heap.size]?=some (.cells #[.string key,.slice (some ⟨g,0,none⟩) m cap,.bool false,.slice bo ws.length cb] 54 (0,0))∧wr.ownsRow (w1.heap.size+1) 9 1 (.slice bo ws.length cb) ws.length (strs ws)∧Below w1.heap.size w1 wr∧Hid (k≤value.size→ws++Yy ((value.data.toList.drop f).take (k - f)) (value.data.toList.drop k)=T)∧Hid (k=value.size+1→ws=T)) (fun _ i _=>value.size+1 - (intOf i).toNat)
 case atStart=>exact⟨0,0,[],none,0,rfl,rfl,by omega,by simp,by omega,heap_alloc_new w1 _,World.ownsRow_nil _ _ _ _,(Below.refl _ _).alloc (Nat.le_refl _) _,fun _=>by simpa using HT.out,fun h=>by omega⟩
 case round =>
  obtain⟨f,k,ws,bo,cb,rfl,rfl,hk,hwl,hfk,hb2,hown2,hbw,hI,hE⟩:=hrel;have hzr:w1.heap.size<wr.heap.size:=(Array.getElem?_eq_some_iff.1 hb2).1;by_cases hks:k≤value.size
  ·by_cases hlast:k=value.size
   ·have hl':((k:Int) == (value.size:Int))=true:=by rw[beq_iff_eq];omega
    have HE:Hid (ws++[(value.data.toList.drop f).take (k - f)]=T):=by
     have:=hI.out hks;rw[List.drop_of_length_le (l:=value.data.toList) (i:=k) (by simp;omega)]at this;exact this
    have hk3:value.size≤k:=by omega
    clear hI hE hlast;have c3:wr.cell? ⟨w1.heap.size,3,none⟩=some (.slice bo ws.length cb):=by rw[Lib.cell_of_heap hb2];rfl
    have f3:wr.frozen? ⟨w1.heap.size,3,none⟩=false:=Lib.frozen_of_heap hb2 3;have q1:(0:Int)≤(f:Int):=by omega
    have q2:(f:Int)≤(k:Int):=by omega
    have q3:(k:Int)≤(value.size:Int):=by omega
    have hne2:(some w1.heap.size:Option Nat)≠(Value.slice bo ws.length cb).ownBlock:=fun h=>by have:=(hown2.lt _ h.symm).1;omega
    go_wp2;go_region_law ((refine step_append_lies _ (by rfl) _ _ _ (by rfl) (w1.heap.size+1) 9 j0 (.string ⟨#[]⟩) 1 16 Tryz.underlying52 hj hy0 hy1 hy2 rfl (by decide) (.slice bo ws.length cb) ws.length (strs ws) (by rfl) ((hown2.alloc _).drew) ⟨wr.heap.size,0,none⟩ 1 1 [.string (value.extract f k)] (by rfl) (by rfl) (World.news_of_block (cs:=#[.string (value.extract f k)]) (t:=9) (fr:=(0,0)) (heap_alloc_new wr _)) (by simp[Value.oneCell']) (by omega) (by unfold maxLen;omega) (by omega) (by simp;omega) (wr.heap.size+1) (by simp) ?_;intro g3 cap3 w3 hown3 hgr2 hat3 hlt3;have hk3':=Aau (Ag7 _ c3 f3) hgr2 hne2;have hk4:=hk3'.1;have hk5:=hk3'.2))
    all_goals
     go_wp2;obtain⟨s1,s2,s3⟩:=Wj hb2 hgr2 (fun j hj=>(hown2.lt j hj).1) hbw hown3 (.slice (some ⟨g3,0,none⟩) (ws.length+1) cap3);go_roundw;case rel=>exact⟨k+1,k+1,ws++[(value.data.toList.drop f).take (k - f)],some ⟨g3,0,none⟩,cap3,by go_num,by go_num,by omega,by simp;omega,by omega,by simpa using s1,by simpa [strs,Wi] using s2,s3,fun h=>by omega,fun _=>HE.out⟩
     case measure=>simp[intOf];omega
   ·have hlt:k<value.size:=by omega
    by_cases h32:value[k].toNat=32
    ·have h32':((value[k].toNat:Int) == 32)=true:=by rw[beq_iff_eq];omega
     have hl':((k:Int) == (value.size:Int))=false:=by rw[beq_eq_false_iff_ne];omega
     have HE:Hid (k+1≤value.size→(ws++[(value.data.toList.drop f).take (k - f)])++Yy ((value.data.toList.drop (k+1)).take (k+1 - (k+1))) (value.data.toList.drop (k+1))=T):=fun _=>by
      have:=hI.out hks;rw[M1 value k hlt,S0 _ _ _ h32]at this;simpa using this
     clear hI hE h32;have c3:wr.cell? ⟨w1.heap.size,3,none⟩=some (.slice bo ws.length cb):=by rw[Lib.cell_of_heap hb2];rfl
     have f3:wr.frozen? ⟨w1.heap.size,3,none⟩=false:=Lib.frozen_of_heap hb2 3;have q1:(0:Int)≤(f:Int):=by omega
     have q2:(f:Int)≤(k:Int):=by omega
     have q3:(k:Int)≤(value.size:Int):=by omega
     have hne2:(some w1.heap.size:Option Nat)≠(Value.slice bo ws.length cb).ownBlock:=fun h=>by have:=(hown2.lt _ h.symm).1;omega
     go_wp2;go_region_law ((refine step_append_lies _ (by rfl) _ _ _ (by rfl) (w1.heap.size+1) 9 j0 (.string ⟨#[]⟩) 1 16 Tryz.underlying52 hj hy0 hy1 hy2 rfl (by decide) (.slice bo ws.length cb) ws.length (strs ws) (by rfl) ((hown2.alloc _).drew) ⟨wr.heap.size,0,none⟩ 1 1 [.string (value.extract f k)] (by rfl) (by rfl) (World.news_of_block (cs:=#[.string (value.extract f k)]) (t:=9) (fr:=(0,0)) (heap_alloc_new wr _)) (by simp[Value.oneCell']) (by omega) (by unfold maxLen;omega) (by omega) (by simp;omega) (wr.heap.size+1) (by simp) ?_;intro g3 cap3 w3 hown3 hgr2 hat3 hlt3;have hk3':=Aau (Ag7 _ c3 f3) hgr2 hne2;have hk4:=hk3'.1;have hk5:=hk3'.2))
     all_goals
      go_wp2;obtain⟨s1,s2,s3⟩:=Wj hb2 hgr2 (fun j hj=>(hown2.lt j hj).1) hbw hown3 (.slice (some ⟨g3,0,none⟩) (ws.length+1) cap3);go_roundw;case rel=>exact⟨k+1,k+1,ws++[(value.data.toList.drop f).take (k - f)],some ⟨g3,0,none⟩,cap3,by go_num,by go_num,by omega,by simp;omega,by omega,by simpa using s1,by simpa [strs,Wi] using s2,s3,HE,fun h=>by omega⟩
      case measure=>simp[intOf];omega
    ·have h32':((value[k].toNat:Int) == 32)=false:=by rw[beq_eq_false_iff_ne];omega
     have hl':((k:Int) == (value.size:Int))=false:=by rw[beq_eq_false_iff_ne];omega
     have HI:Hid (k+1≤value.size→ws++Yy ((value.data.toList.drop f).take (k+1 - f)) (value.data.toList.drop (k+1))=T):=fun _=>by
      have:=hI.out hks;rw[M1 value k hlt,Wh _ _ _ h32]at this;rw[Adj value f k hfk hlt];exact this
     clear hI hE h32;go_wp2;go_roundw;case rel=>exact⟨f,k+1,ws,bo,cb,rfl,by go_num,by omega,by omega,by omega,hb2,hown2,hbw,HI,fun h=>by omega⟩
     case measure=>simp[intOf];omega
  ·have hR:=hE.out (by omega);subst hR;have c0:wr.cell? ⟨w1.heap.size,0,none⟩=some (.string key):=by rw[Lib.cell_of_heap hb2];rfl
   have c1:wr.cell? ⟨w1.heap.size,1,none⟩=some (.slice (some ⟨g,0,none⟩) m cap):=by rw[Lib.cell_of_heap hb2];rfl
   have c2:wr.cell? ⟨w1.heap.size,2,none⟩=some (.bool false):=by rw[Lib.cell_of_heap hb2];rfl
   have c3:wr.cell? ⟨w1.heap.size,3,none⟩=some (.slice bo ws.length cb):=by rw[Lib.cell_of_heap hb2];rfl
   have hBr:=hB1.trans (hbw.mono hz);have r0:wr.cell? ⟨w.heap.size,0,none⟩=some (.string ⟨#[]⟩):=by rw[hBr.cell (by simp)];simp
   have r1:wr.cell? ⟨w.heap.size,1,none⟩=some (.slice none 0 0):=by rw[hBr.cell (by simp)];simp
   have r2:wr.cell? ⟨w.heap.size,2,none⟩=some (.bool false):=by rw[hBr.cell (by simp)];simp
   have r3:wr.cell? ⟨w.heap.size,3,none⟩=some (.slice none 0 0):=by rw[hBr.cell (by simp)];simp
   have f0:wr.frozen? ⟨w.heap.size,0,none⟩=false:=by rw[hBr.frozen (by simp)];simp
   have f1:wr.frozen? ⟨w.heap.size,1,none⟩=false:=by rw[hBr.frozen (by simp)];simp
   have f2:wr.frozen? ⟨w.heap.size,2,none⟩=false:=by rw[hBr.frozen (by simp)];simp
   have f3:wr.frozen? ⟨w.heap.size,3,none⟩=false:=by rw[hBr.frozen (by simp)];simp
   have hown1':=Cd hown1 hbw;have hapart:(Value.slice (some ⟨g,0,none⟩) ns.length cap).ownBlock≠(Value.slice bo ws.length cb).ownBlock:=fun h=>by
    have h1:=(hown2.lt g (by rw[← h];rfl)).1;omega
   clear hI hE;go_wp2;subst hm;exact bodyPost_ret (v:=.agg #[.string key,.slice (some ⟨g,0,none⟩) ns.length cap,.bool false,.slice bo ws.length cb]) (by simp[results,Tryz.results117,go_sem,r0,r1,r2,r3]) rfl (Wg hown1' (Ec hown2 (by omega)) (Or.inr hapart) hBr _ _ _ _)
variable {w0:World}{va:Value}{m:Nat}
structure Ce where
 key:ByteArray
 va:Value
 ns:List Int
 many:Bool
 vd:Value
 ds:List (List UInt8)
abbrev Plain:=ByteArray × List Int × Bool × List (List UInt8)
def Ce.cells(r:Ce):List Value:=[.string r.key,r.va,.bool r.many,r.vd]
def Ce.rows(r:Ce):List MRow:=[⟨r.va,3,1,r.ns.length,Dq r.ns⟩,⟨r.vd,9,1,r.ds.length,strs r.ds⟩]
def Ce.plain(r:Ce):Plain:=(r.key,r.ns,r.many,r.ds)
def Cm(B:Nat)(w:World)(v:Value)(L:List Ce):Prop:=A8 B w (⟨v,54,4,L.length,L.flatMap Ce.cells⟩::L.flatMap Ce.rows)
def Gl(R:List Plain)(w:World)(e:Ending)(w':World):Prop:=∃ v L,e=.returned v∧L.map Ce.plain=R∧Cm w.heap.size w' v L∧Below w.heap.size w w'
def Gm:List Plain:=[(⟨#[99,111,112,105,101,115]⟩,[1],false,[[49,48,48]]),(⟨#[114,111,111,109]⟩,[1],false,[[49,48,48,48]])]
def Fo:List Plain:=[(⟨#[122,111,110,101]⟩,[3],false,[[122]]),(⟨#[114,111,111,109]⟩,[1],false,[[49,48,48]]),(⟨#[104,111,108,100]⟩,[1],false,[[49,48,48]]),(⟨#[109,97,114,107]⟩,[3],true,[])]
def Eh:List Plain:=[(⟨#[116,101,97,109]⟩,[3],false,[[99,111,114,101]]),(⟨#[105,109,97,103,101]⟩,[1],false,[[49]]),(⟨#[119,97,110,116]⟩,[1],false,[[49]]),(⟨#[100,111,119,110]⟩,[1],false,[[49]]),(⟨#[111,118,101,114]⟩,[1],false,[[48]]),(⟨#[110,101,101,100,115]⟩,[1,1],false,[[49],[49]]),(⟨#[119,104,101,114,101]⟩,[4],false,[[]]),(⟨#[108,105,107,101]⟩,[4,2],true,[]),(⟨#[97,112,97,114,116]⟩,[6],false,[[110,111,110,101]]),(⟨#[118,111,108,117,109,101]⟩,[5],false,[[110,111]]),(⟨#[102,111,108,108,111,119]⟩,[1,1,1],false,[[48],[48],[48]]),(⟨#[112,97,99,101]⟩,[1,1,1],false,[[48],[48],[48]])]
def rulesOf(kind:ByteArray):List Plain:=if kind.toList=[116,101,97,109] then Gm else if kind.toList=[98,101,114,116,104] then Fo else if kind.toList=[115,101,114,118,105,99,101] then Eh else []
structure Ps(w0 w:World)(L:List Ce):Prop where
 mem:A8 w0.heap.size w (L.flatMap Ce.rows)
 below:Below w0.heap.size w0 w
theorem Ps.nil(w:World):Ps w w []:=⟨A8.nil _ _,Below.refl _ _⟩
theorem Ps.call{L:List Ce}(h:Ps w0 w L)(key:ByteArray)(many:Bool){vd:Value}{ds:List (List UInt8)}(hm:A8 w.heap.size w' [⟨va,3,1,ns.length,Dq ns⟩,⟨vd,9,1,ds.length,strs ds⟩]∧ns.length=n∧ds.length=m)(hb:Below w.heap.size w w'):
  Ps w0 w' (⟨key,va,ns,many,vd,ds⟩::L) :=
 ⟨h.mem.join hm.1 hb h.below.size,h.below.trans (hb.mono h.below.size)⟩
theorem Ps.done{L:List Ce}(h:Ps w0 w L)(cs:Array Value)(n:Nat)(hn:L.length=n)(hc:cs.toList=L.reverse.flatMap Ce.cells)(h0:n≤100):
  Cm w0.heap.size (w.alloc (.cells cs 54)) (.slice (some ⟨w.heap.size,0,none⟩) n n) L.reverse∧Below w0.heap.size w0 (w.alloc (.cells cs 54)):=by
 have hb:=(Below.refl w.heap.size w).alloc (Nat.le_refl _) (.cells cs 54);have hl:∀ M:List Ce,(M.flatMap Ce.cells).length=M.length * 4:=fun M=>by
  induction M with
  | nil=>rfl
  | cons a M ih=>rw[List.flatMap_cons,List.length_append,ih];simp[Ce.cells];omega
 have hown:=World.ownsRow_lit (base:=w.heap.size) (e:=54) (size:=4) w cs n (by omega) (by unfold maxLen;omega) (by rw[← Array.length_toList,hc,hl,List.length_reverse,hn]);refine⟨?_,h.below.trans (hb.mono h.below.size)⟩;have hp:A8 w0.heap.size w (L.reverse.flatMap Ce.rows):=h.mem.perm ((List.reverse_perm L).symm.flatMap_right _);unfold Cm;refine hp.cons ?_ hb h.below.size;unfold MRow.isAt;simp only[List.length_reverse,hn];rw[← hc];exact hown
theorem Ps.post{L:List Ce}{R:List Plain}(h:Ps w0 w L)(cs:Array Value)(n:Nat)(hn:L.length=n)(hc:cs.toList=L.reverse.flatMap Ce.cells)(hR:L.reverse.map Ce.plain=R)(h0:n≤100:=by decide):
  Gl R w0 (.returned (.slice (some ⟨w.heap.size,0,none⟩) n n)) (w.alloc (.cells cs 54)) :=
 ⟨_,_,rfl,hR,(h.done cs n hn hc h0).1,(h.done cs n hn hc h0).2⟩
theorem Wk(w:World)(ns:List Int)(cs:Array Value)(hcs:cs.toList=Dq ns):∀ j u,(Dq ns)[j]?=some u→(w.alloc (.cells cs 3)).cell? ((⟨w.heap.size,0,none⟩:Addr).add j)=some u:=by
 rw[← hcs];exact World.news_of_block (cs:=cs) (t:=3) (fr:=(0,0)) (heap_alloc_new w _)
theorem Dc(key value:ByteArray)(ns:List Int)(ds:List (List UInt8))(w:World)(n m K:Nat)(hK:w.heap.size=K)(hn:ns.length=n)(hm:ds.length=m)(hds:Yy [] value.data.toList=ds)(h0:0<n)(h1:n≤100)(h2:value.size≤100)(hcs:cs.toList=Dq ns:=by rfl):
  Calls Tryz.prog 117 #[.string key,.string value,.slice (some ⟨K,0,none⟩) n n] (w.alloc (.cells cs 3)) fun e w'=>∃ ao ca bo cb,e=.returned (.agg #[.string key,.slice ao n ca,.bool false,.slice bo m cb]) ∧
   (A8 w.heap.size w' [⟨.slice ao n ca,3,1,ns.length,Dq ns⟩,⟨.slice bo m cb,9,1,ds.length,strs ds⟩]∧ns.length=n∧ds.length=m)∧Below w.heap.size w w':=by
 subst hK hn hm hds;refine(Abk key value ns w.heap.size ns.length _ rfl h0 h1 h2 (Wk w ns cs hcs)).mono ?_;rintro e w' ⟨ao,ca,bo,cb,rfl,hmem,hb⟩;rw[World.size_alloc]at hmem hb;exact⟨ao,ca,bo,cb,rfl,⟨hmem.mono (Nat.le_succ _),rfl,rfl⟩,((Below.refl _ w).alloc (Nat.le_refl _) _).trans (hb.mono (Nat.le_succ _))⟩
theorem R4(key:ByteArray)(ns:List Int)(w:World)(n K:Nat)(hK:w.heap.size=K)(hn:ns.length=n)(h0:0<n)(h1:n≤100)(hcs:cs.toList=Dq ns:=by rfl):
  Calls Tryz.prog 118 #[.string key,.slice (some ⟨K,0,none⟩) n n] (w.alloc (.cells cs 3)) fun e w'=>∃ ao ca bo cb,e=.returned (.agg #[.string key,.slice ao n ca,.bool true,.slice bo 0 cb]) ∧
   (A8 w.heap.size w' [⟨.slice ao n ca,3,1,ns.length,Dq ns⟩,⟨.slice bo 0 cb,9,1,([]:List (List UInt8)).length,strs []⟩]∧ns.length=n∧([]:List (List UInt8)).length=0)∧Below w.heap.size w w':=by
 subst hK hn;refine(Yz key ns w.heap.size ns.length _ rfl h0 h1 (Wk w ns cs hcs)).mono ?_;rintro e w' ⟨ao,ca,bo,cb,rfl,hmem,hb⟩;rw[World.size_alloc]at hmem hb;exact⟨ao,ca,bo,cb,rfl,⟨hmem.mono (Nat.le_succ _),rfl,rfl⟩,((Below.refl _ w).alloc (Nat.le_refl _) _).trans (hb.mono (Nat.le_succ _))⟩
theorem Pt(kind:ByteArray)(w:World)(hk1:(kind.toList == [116,101,97,109])=true):Calls Tryz.prog 56 #[.string kind] w fun e w'=>Gl Gm w e w':=by
  have a0:=Ps.nil w;go_enter Tryz.func56,Tryz.ntmps56;go_wp2_with (go_at_call 117;refine(Dc ⟨#[99,111,112,105,101,115]⟩ ⟨#[49,48,48]⟩ [1] [[49,48,48]] w 1 1 w.heap.size rfl rfl rfl rfl (by decide) (by decide) (by decide)).mono ?_)
  rintro e w1 ⟨ao1,ca1,bo1,cb1,rfl,m1,b1⟩;have a1:=a0.call ⟨#[99,111,112,105,101,115]⟩ false m1 b1;clear a0 m1 b1;go_wp2_with (go_at_call 117;refine(Dc ⟨#[114,111,111,109]⟩ ⟨#[49,48,48,48]⟩ [1] [[49,48,48,48]] w1 1 1 w1.heap.size rfl rfl rfl rfl (by decide) (by decide) (by decide)).mono ?_)
  rintro e w2 ⟨ao2,ca2,bo2,cb2,rfl,m2,b2⟩;have a2:=a1.call ⟨#[114,111,111,109]⟩ false m2 b2;clear a1 m2 b2;go_wp2;go_ret;exact a2.post _ 2 rfl rfl rfl
theorem Oj(kind:ByteArray)(w:World)(hk1:(kind.toList == [116,101,97,109])=false)(hk2:(kind.toList == [98,101,114,116,104])=true):Calls Tryz.prog 56 #[.string kind] w fun e w'=>Gl Fo w e w':=by
  have a0:=Ps.nil w;go_enter Tryz.func56,Tryz.ntmps56;go_wp2_with (go_at_call 117;refine(Dc ⟨#[122,111,110,101]⟩ ⟨#[122]⟩ [3] [[122]] w 1 1 w.heap.size rfl rfl rfl rfl (by decide) (by decide) (by decide)).mono ?_)
  rintro e w1 ⟨ao1,ca1,bo1,cb1,rfl,m1,b1⟩;have a1:=a0.call ⟨#[122,111,110,101]⟩ false m1 b1;clear a0 m1 b1;go_wp2_with (go_at_call 117;refine(Dc ⟨#[114,111,111,109]⟩ ⟨#[49,48,48]⟩ [1] [[49,48,48]] w1 1 1 w1.heap.size rfl rfl rfl rfl (by decide) (by decide) (by decide)).mono ?_)
  rintro e w2 ⟨ao2,ca2,bo2,cb2,rfl,m2,b2⟩;have a2:=a1.call ⟨#[114,111,111,109]⟩ false m2 b2;clear a1 m2 b2;go_wp2_with (go_at_call 117;refine(Dc ⟨#[104,111,108,100]⟩ ⟨#[49,48,48]⟩ [1] [[49,48,48]] w2 1 1 w2.heap.size rfl rfl rfl rfl (by decide) (by decide) (by decide)).mono ?_)
  rintro e w3 ⟨ao3,ca3,bo3,cb3,rfl,m3,b3⟩;have a3:=a2.call ⟨#[104,111,108,100]⟩ false m3 b3;clear a2 m3 b3;go_wp2_with (go_at_call 118;refine(R4 ⟨#[109,97,114,107]⟩ [3] w3 1 w3.heap.size rfl rfl (by decide) (by decide)).mono ?_)
  rintro e w4 ⟨ao4,ca4,bo4,cb4,rfl,m4,b4⟩;have a4:=a3.call ⟨#[109,97,114,107]⟩ true m4 b4;clear a3 m4 b4;go_wp2;go_ret;exact a4.post _ 4 rfl rfl rfl
theorem L4(kind:ByteArray)(w:World)(hk1:(kind.toList == [116,101,97,109])=false)(hk2:(kind.toList == [98,101,114,116,104])=false)(hk3:(kind.toList == [115,101,114,118,105,99,101])=true):Calls Tryz.prog 56 #[.string kind] w fun e w'=>Gl Eh w e w':=by
  have a0:=Ps.nil w;go_enter Tryz.func56,Tryz.ntmps56;go_wp2_with (go_at_call 117;refine(Dc ⟨#[116,101,97,109]⟩ ⟨#[99,111,114,101]⟩ [3] [[99,111,114,101]] w 1 1 w.heap.size rfl rfl rfl rfl (by decide) (by decide) (by decide)).mono ?_)
  rintro e w1 ⟨ao1,ca1,bo1,cb1,rfl,m1,b1⟩;have a1:=a0.call ⟨#[116,101,97,109]⟩ false m1 b1;clear a0 m1 b1;go_wp2_with (go_at_call 117;refine(Dc ⟨#[105,109,97,103,101]⟩ ⟨#[49]⟩ [1] [[49]] w1 1 1 w1.heap.size rfl rfl rfl rfl (by decide) (by decide) (by decide)).mono ?_)
  rintro e w2 ⟨ao2,ca2,bo2,cb2,rfl,m2,b2⟩;have a2:=a1.call ⟨#[105,109,97,103,101]⟩ false m2 b2;clear a1 m2 b2;go_wp2_with (go_at_call 117;refine(Dc ⟨#[119,97,110,116]⟩ ⟨#[49]⟩ [1] [[49]] w2 1 1 w2.heap.size rfl rfl rfl rfl (by decide) (by decide) (by decide)).mono ?_)
  rintro e w3 ⟨ao3,ca3,bo3,cb3,rfl,m3,b3⟩;have a3:=a2.call ⟨#[119,97,110,116]⟩ false m3 b3;clear a2 m3 b3;go_wp2_with (go_at_call 117;refine(Dc ⟨#[100,111,119,110]⟩ ⟨#[49]⟩ [1] [[49]] w3 1 1 w3.heap.size rfl rfl rfl rfl (by decide) (by decide) (by decide)).mono ?_)
  rintro e w4 ⟨ao4,ca4,bo4,cb4,rfl,m4,b4⟩;have a4:=a3.call ⟨#[100,111,119,110]⟩ false m4 b4;clear a3 m4 b4;go_wp2_with (go_at_call 117;refine(Dc ⟨#[111,118,101,114]⟩ ⟨#[48]⟩ [1] [[48]] w4 1 1 w4.heap.size rfl rfl rfl rfl (by decide) (by decide) (by decide)).mono ?_)
  rintro e w5 ⟨ao5,ca5,bo5,cb5,rfl,m5,b5⟩;have a5:=a4.call ⟨#[111,118,101,114]⟩ false m5 b5;clear a4 m5 b5;go_wp2_with (go_at_call 117;refine(Dc ⟨#[110,101,101,100,115]⟩ ⟨#[49,32,49]⟩ [1,1] [[49],[49]] w5 2 2 w5.heap.size rfl rfl rfl rfl (by decide) (by decide) (by decide)).mono ?_)
  rintro e w6 ⟨ao6,ca6,bo6,cb6,rfl,m6,b6⟩;have a6:=a5.call ⟨#[110,101,101,100,115]⟩ false m6 b6;clear a5 m6 b6;go_wp2_with (go_at_call 117;refine(Dc ⟨#[119,104,101,114,101]⟩ ⟨#[]⟩ [4] [[]] w6 1 1 w6.heap.size rfl rfl rfl rfl (by decide) (by decide) (by decide)).mono ?_)
  rintro e w7 ⟨ao7,ca7,bo7,cb7,rfl,m7,b7⟩;have a7:=a6.call ⟨#[119,104,101,114,101]⟩ false m7 b7;clear a6 m7 b7;go_wp2_with (go_at_call 118;refine(R4 ⟨#[108,105,107,101]⟩ [4,2] w7 2 w7.heap.size rfl rfl (by decide) (by decide)).mono ?_)
  rintro e w8 ⟨ao8,ca8,bo8,cb8,rfl,m8,b8⟩;have a8:=a7.call ⟨#[108,105,107,101]⟩ true m8 b8;clear a7 m8 b8;go_wp2_with (go_at_call 117;refine(Dc ⟨#[97,112,97,114,116]⟩ ⟨#[110,111,110,101]⟩ [6] [[110,111,110,101]] w8 1 1 w8.heap.size rfl rfl rfl rfl (by decide) (by decide) (by decide)).mono ?_)
  rintro e w9 ⟨ao9,ca9,bo9,cb9,rfl,m9,b9⟩;have a9:=a8.call ⟨#[97,112,97,114,116]⟩ false m9 b9;clear a8 m9 b9;go_wp2_with (go_at_call 117;refine(Dc ⟨#[118,111,108,117,109,101]⟩ ⟨#[110,111]⟩ [5] [[110,111]] w9 1 1 w9.heap.size rfl rfl rfl rfl (by decide) (by decide) (by decide)).mono ?_)
  rintro e w10 ⟨ao10,ca10,bo10,cb10,rfl,m10,b10⟩;have a10:=a9.call ⟨#[118,111,108,117,109,101]⟩ false m10 b10;clear a9 m10 b10;go_wp2_with (go_at_call 117;refine(Dc ⟨#[102,111,108,108,111,119]⟩ ⟨#[48,32,48,32,48]⟩ [1,1,1] [[48],[48],[48]] w10 3 3 w10.heap.size rfl rfl rfl rfl (by decide) (by decide) (by decide)).mono ?_)
  rintro e w11 ⟨ao11,ca11,bo11,cb11,rfl,m11,b11⟩;have a11:=a10.call ⟨#[102,111,108,108,111,119]⟩ false m11 b11;clear a10 m11 b11;go_wp2_with (go_at_call 117;refine(Dc ⟨#[112,97,99,101]⟩ ⟨#[48,32,48,32,48]⟩ [1,1,1] [[48],[48],[48]] w11 3 3 w11.heap.size rfl rfl rfl rfl (by decide) (by decide) (by decide)).mono ?_)
  rintro e w12 ⟨ao12,ca12,bo12,cb12,rfl,m12,b12⟩;have a12:=a11.call ⟨#[112,97,99,101]⟩ false m12 b12;clear a11 m12 b12;go_wp2;go_ret;exact a12.post _ 12 rfl rfl rfl
theorem Pu(kind:ByteArray)(w:World)(hk1:(kind.toList == [116,101,97,109])=false)(hk2:(kind.toList == [98,101,114,116,104])=false)(hk3:(kind.toList == [115,101,114,118,105,99,101])=false):Calls Tryz.prog 56 #[.string kind] w fun e w'=>Gl [] w e w':=by
 go_enter Tryz.func56,Tryz.ntmps56;go_wp2;go_ret;refine⟨_,[],rfl,rfl,?_,(Below.refl _ w).alloc (Nat.le_refl _) _⟩;exact(A8.nil _ w).cons (r:=⟨_,_,_,_,_⟩) (World.ownsRow_lit (base:=w.heap.size) (e:=54) (size:=4) w #[] 0 (Nat.le_refl _) (by decide) rfl) ((Below.refl _ w).alloc (Nat.le_refl _) _) (Nat.le_refl _)
theorem D5(kind:ByteArray)(w:World):Calls Tryz.prog 56 #[.string kind] w fun e w'=>Gl (rulesOf kind) w e w':=by
 unfold rulesOf;by_cases h1:kind.toList=[116,101,97,109]
 ·rw[if_pos h1];exact Pt kind w (beq_iff_eq.2 h1)
 rw[if_neg h1];by_cases h2:kind.toList=[98,101,114,116,104]
 ·rw[if_pos h2];exact Oj kind w (beq_eq_false_iff_ne.2 h1) (beq_iff_eq.2 h2)
 rw[if_neg h2];by_cases h3:kind.toList=[115,101,114,118,105,99,101]
 ·rw[if_pos h3];exact L4 kind w (beq_eq_false_iff_ne.2 h1) (beq_eq_false_iff_ne.2 h2) (beq_iff_eq.2 h3)
 rw[if_neg h3];exact Pu kind w (beq_eq_false_iff_ne.2 h1) (beq_eq_false_iff_ne.2 h2) (beq_eq_false_iff_ne.2 h3)
variable {g:Nat}{rest:List MRow}{α:Type}
theorem R5(L:List Ce):(L.flatMap Ce.cells).length=L.length * 4:=by
 induction L with
 | nil=>rfl
 | cons a M ih=>rw[List.flatMap_cons,List.length_append,ih];simp[Ce.cells];omega
theorem Adk(D T:List Ce)(r:Ce)(c:Nat)(hc:c<4):((D++r::T).flatMap Ce.cells)[D.length * 4+c]?=r.cells[c]?:=by
 rw[List.flatMap_append,List.flatMap_cons,List.getElem?_append_right (by rw[R5];omega),R5,Nat.add_sub_cancel_left,List.getElem?_append_left (by simp[Ce.cells];omega)]
def RM(B:Nat)(w:World)(v:Value)(C:List Ce)(rest:List MRow):Prop:=A8 B w (⟨v,54,4,C.length,C.flatMap Ce.cells⟩::(C.flatMap Ce.rows++rest))
theorem Cm.rm{C:List Ce}(h:Cm B w v C):RM B w v C []:=by unfold RM;rw[List.append_nil];exact h
theorem RM.cell{cap:Nat}{D T:List Ce}{r:Ce}(h:RM B w (.slice (some ⟨g,0,none⟩) n cap) (D++r::T) rest)(c:Nat)(hc:c<4):w.cell? ⟨g,D.length * 4+c,none⟩=r.cells[c]?:=by
 have h1:=(A8.head h).cells rfl (D.length * 4+c);obtain⟨u,hu⟩:∃ u,r.cells[c]?=some u:=⟨_,List.getElem?_eq_getElem (by simp[Ce.cells];omega)⟩;rw[hu];rw[← Oq];exact h1 u (by rw[Adk D T r c hc,hu])
theorem RM.args{D T:List Ce}{r:Ce}(h:RM B w v (D++r::T) rest):w.ownsRow B 3 1 r.va r.ns.length (Dq r.ns):=h.1 ⟨r.va,3,1,r.ns.length,Dq r.ns⟩ (by simp[Ce.rows])
theorem RM.defs{D T:List Ce}{r:Ce}(h:RM B w v (D++r::T) rest):w.ownsRow B 9 1 r.vd r.ds.length (strs r.ds):=h.1 ⟨r.vd,9,1,r.ds.length,strs r.ds⟩ (by simp[Ce.rows])
theorem RM.below{C:List Ce}(h:RM B w v C rest)(hb:Below w.heap.size w w'):RM B w' v C rest:=A8.below h hb
theorem Br(L:List α)(j:Nat)(h:j<L.length):∃ D r T,L=D++r::T∧D.length=j :=
 ⟨L.take j,L[j],L.drop (j+1),by rw[← List.drop_eq_getElem_cons h,List.take_append_drop],by simp;omega⟩
end Go.Proofs.YtpdahhnjhggocaaGreatDoor
